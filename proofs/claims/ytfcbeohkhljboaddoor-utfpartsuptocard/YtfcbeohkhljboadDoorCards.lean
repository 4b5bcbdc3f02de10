/-
  DERIVED. GIVEN WITH THE SEED: THE CARDS: each row of YtfcbeohkhljboadDoorRows.lean that lists a variable, with what it lists TIED to the program's text (the seventh form; the later family's looks); each row that meets fmt, with fmt's text TOLD by the authors' own Lean function (tested against real Go, not proved from fmt's source: count such statements apart). THE CARD IS WHAT COUNTS. Prove the row's statement (the work); the ties are given (YtfcbeohkhljboadDoorTie.lean); close each card by the builder's one call (the guide's Derived/Test/ToyasCard.lean, 'card_holds'). Laid BY PROGRAM, IN A SANDBOX (cutbox-door.mjs). By AI agents, Wed Nov 11 2026. No macro, syntax, notation, axiom, sorry.
-/
import Derived.Test.YtfcbeohkhljboadDoorRows
import GoSem.ClaimSeven
namespace Go.Proofs.YtfcbeohkhljboadDoor
namespace Rows

/-- THE TIED CARD OF 'hallmarklaw02.UtfOne'. -/
def utfOneCard : Claim7 := { stood := { row := utfOneRow, standIns := [], harness := (true, "7d89b8dfb64e8b1b00a02d5162a540700fb528b8097383b5c27d049f68e620ab"), looks := true }, kinds := [], alts := [], laidByText := true, laidKinds := [.data, .data, .data, .sentinel, .sentinel], laidTests := true, laidLooks := .later }
def UtfOneCardSaid : Prop := Claim7.holds Tryd.pinned (.plain (OpenSpec.ofChange utfOneSpec)) utfOneCard

/-- THE TIED CARD OF 'hallmarklaw02.UtfEscapes'. -/
def utfEscapesCard : Claim7 := { stood := { row := utfEscapesRow, standIns := [], harness := (true, "7d89b8dfb64e8b1b00a02d5162a540700fb528b8097383b5c27d049f68e620ab"), looks := true }, kinds := [], alts := [], laidByText := true, laidKinds := [.data, .data, .data, .sentinel, .sentinel], laidTests := true, laidLooks := .later }
def UtfEscapesCardSaid : Prop := Claim7.holds Tryd.pinned (.plain (OpenSpec.ofChange utfEscapesSpec)) utfEscapesCard

/-- THE TIED CARD OF 'hallmarklaw02.UtfSplits'. -/
def utfSplitsCard : Claim7 := { stood := { row := utfSplitsRow, standIns := [], harness := (true, "7d89b8dfb64e8b1b00a02d5162a540700fb528b8097383b5c27d049f68e620ab"), looks := true }, kinds := [], alts := [], laidByText := true, laidKinds := [.data, .data, .data, .sentinel, .sentinel], laidTests := true, laidLooks := .later }
def UtfSplitsCardSaid : Prop := Claim7.holds Tryd.pinned (.plain (OpenSpec.ofChange utfSplitsSpec)) utfSplitsCard

/-- THE TIED CARD OF 'hallmarklaw02.UtfCases'. -/
def utfCasesCard : Claim7 := { stood := { row := utfCasesRow, standIns := [], harness := (true, "7d89b8dfb64e8b1b00a02d5162a540700fb528b8097383b5c27d049f68e620ab"), looks := true }, kinds := [], alts := [], laidByText := true, laidKinds := [.data, .data, .data, .sentinel, .sentinel], laidTests := true, laidLooks := .later }
def UtfCasesCardSaid : Prop := Claim7.holds Tryd.pinned (.plain (OpenSpec.ofChange utfCasesSpec)) utfCasesCard

/-- THE TIED CARD OF 'hallmarklaw02.UtfFresh'. -/
def utfFreshCard : Claim7 := { stood := { row := utfFreshRow, standIns := [], harness := (true, "7d89b8dfb64e8b1b00a02d5162a540700fb528b8097383b5c27d049f68e620ab"), looks := true }, kinds := [], alts := [], laidByText := true, laidKinds := [.data, .data, .data, .sentinel, .sentinel], laidTests := true, laidLooks := .later }
def UtfFreshCardSaid : Prop := Claim7.holds Tryd.pinned (.plain (OpenSpec.ofChange utfFreshSpec)) utfFreshCard

/-- THE TIED CARD OF 'hallmarklaw02.UtfParts'. -/
def utfPartsCard : Claim7 := { stood := { row := utfPartsRow, standIns := [], harness := (true, "7d89b8dfb64e8b1b00a02d5162a540700fb528b8097383b5c27d049f68e620ab"), looks := true }, kinds := [], alts := [], laidByText := true, laidKinds := [.data, .data, .data, .sentinel, .sentinel], laidTests := true, laidLooks := .later }
def UtfPartsCardSaid : Prop := Claim7.holds Tryd.pinned (.plain (OpenSpec.ofChange utfPartsSpec)) utfPartsCard

/-- THE SECOND FORM's CARD OF 'hallmarklaw02.UtfOne'. -/
def utfOneUptoCard : Claim7 := { stood := { row := utfOneUptoRow, standIns := [], harness := (true, "7d89b8dfb64e8b1b00a02d5162a540700fb528b8097383b5c27d049f68e620ab"), looks := true }, kinds := [], alts := [], laidByText := true, laidKinds := [.data, .data, .data, .sentinel, .sentinel], laidTests := true, laidLooks := .later }
def UtfOneUptoCardSaid : Prop := Claim7.holds Tryd.pinned (.plain (OpenSpec.upto utfOneSpec)) utfOneUptoCard

/-- THE SECOND FORM's CARD OF 'hallmarklaw02.UtfEscapes'. -/
def utfEscapesUptoCard : Claim7 := { stood := { row := utfEscapesUptoRow, standIns := [], harness := (true, "7d89b8dfb64e8b1b00a02d5162a540700fb528b8097383b5c27d049f68e620ab"), looks := true }, kinds := [], alts := [], laidByText := true, laidKinds := [.data, .data, .data, .sentinel, .sentinel], laidTests := true, laidLooks := .later }
def UtfEscapesUptoCardSaid : Prop := Claim7.holds Tryd.pinned (.plain (OpenSpec.upto utfEscapesSpec)) utfEscapesUptoCard

/-- THE SECOND FORM's CARD OF 'hallmarklaw02.UtfSplits'. -/
def utfSplitsUptoCard : Claim7 := { stood := { row := utfSplitsUptoRow, standIns := [], harness := (true, "7d89b8dfb64e8b1b00a02d5162a540700fb528b8097383b5c27d049f68e620ab"), looks := true }, kinds := [], alts := [], laidByText := true, laidKinds := [.data, .data, .data, .sentinel, .sentinel], laidTests := true, laidLooks := .later }
def UtfSplitsUptoCardSaid : Prop := Claim7.holds Tryd.pinned (.plain (OpenSpec.upto utfSplitsSpec)) utfSplitsUptoCard

/-- THE SECOND FORM's CARD OF 'hallmarklaw02.UtfCases'. -/
def utfCasesUptoCard : Claim7 := { stood := { row := utfCasesUptoRow, standIns := [], harness := (true, "7d89b8dfb64e8b1b00a02d5162a540700fb528b8097383b5c27d049f68e620ab"), looks := true }, kinds := [], alts := [], laidByText := true, laidKinds := [.data, .data, .data, .sentinel, .sentinel], laidTests := true, laidLooks := .later }
def UtfCasesUptoCardSaid : Prop := Claim7.holds Tryd.pinned (.plain (OpenSpec.upto utfCasesSpec)) utfCasesUptoCard

/-- THE SECOND FORM's CARD OF 'hallmarklaw02.UtfFresh'. -/
def utfFreshUptoCard : Claim7 := { stood := { row := utfFreshUptoRow, standIns := [], harness := (true, "7d89b8dfb64e8b1b00a02d5162a540700fb528b8097383b5c27d049f68e620ab"), looks := true }, kinds := [], alts := [], laidByText := true, laidKinds := [.data, .data, .data, .sentinel, .sentinel], laidTests := true, laidLooks := .later }
def UtfFreshUptoCardSaid : Prop := Claim7.holds Tryd.pinned (.plain (OpenSpec.upto utfFreshSpec)) utfFreshUptoCard

/-- THE SECOND FORM's CARD OF 'hallmarklaw02.UtfParts'. -/
def utfPartsUptoCard : Claim7 := { stood := { row := utfPartsUptoRow, standIns := [], harness := (true, "7d89b8dfb64e8b1b00a02d5162a540700fb528b8097383b5c27d049f68e620ab"), looks := true }, kinds := [], alts := [], laidByText := true, laidKinds := [.data, .data, .data, .sentinel, .sentinel], laidTests := true, laidLooks := .later }
def UtfPartsUptoCardSaid : Prop := Claim7.holds Tryd.pinned (.plain (OpenSpec.upto utfPartsSpec)) utfPartsUptoCard
end Rows
end Go.Proofs.YtfcbeohkhljboadDoor
