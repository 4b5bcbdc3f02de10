/-
  DERIVED. GIVEN WITH THE SEED: THE CARDS: each row of YtbfjpmbninlbbabGreatDoorRows.lean that lists a variable, with what it lists TIED to the program's text (the seventh form; the later family's looks); each row that meets fmt, with fmt's text TOLD by the authors' own Lean function (tested against real Go, not proved from fmt's source: count such statements apart). THE CARD IS WHAT COUNTS. Prove the row's statement (the work); the ties are given (YtbfjpmbninlbbabGreatDoorTie.lean); close each card by the builder's one call (the guide's Derived/Test/ToyasCard.lean, 'card_holds'). Laid BY PROGRAM, IN A SANDBOX (cutbox-door.mjs). By AI agents, Wed Nov 11 2026. No macro, syntax, notation, axiom, sorry.
-/
import Derived.Test.YtbfjpmbninlbbabGreatDoorRows
import GoSem.ClaimSeven
namespace Go.Proofs.YtbfjpmbninlbbabGreatDoor
namespace Rows

/-- THE TIED CARD OF 'hallmarklaw02.UtfAnswers'. -/
def utfAnswersCard : Claim7 := { stood := { row := utfAnswersRow, standIns := [], harness := (true, "8010d5d3fa681811de9c3bb537eb217f5b208df3d0c946d1346f89e96f6b49ed"), looks := true }, kinds := [], alts := [], laidByText := true, laidKinds := [.data, .data, .data, .sentinel, .sentinel], laidTests := true, laidLooks := .later }
def UtfAnswersCardSaid : Prop := Claim7.holds Tryz.pinned (.plain (OpenSpec.ofChange utfAnswersSpec)) utfAnswersCard

/-- THE SECOND FORM's CARD OF 'hallmarklaw02.UtfAnswers'. -/
def utfAnswersUptoCard : Claim7 := { stood := { row := utfAnswersUptoRow, standIns := [], harness := (true, "8010d5d3fa681811de9c3bb537eb217f5b208df3d0c946d1346f89e96f6b49ed"), looks := true }, kinds := [], alts := [], laidByText := true, laidKinds := [.data, .data, .data, .sentinel, .sentinel], laidTests := true, laidLooks := .later }
def UtfAnswersUptoCardSaid : Prop := Claim7.holds Tryz.pinned (.plain (OpenSpec.upto utfAnswersSpec)) utfAnswersUptoCard
end Rows
end Go.Proofs.YtbfjpmbninlbbabGreatDoor
