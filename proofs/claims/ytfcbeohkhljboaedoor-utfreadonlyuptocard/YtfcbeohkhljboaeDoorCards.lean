/-
  DERIVED. GIVEN WITH THE SEED: THE CARDS: each row of YtfcbeohkhljboaeDoorRows.lean that lists a variable, with what it lists TIED to the program's text (the seventh form; the later family's looks); each row that meets fmt, with fmt's text TOLD by the authors' own Lean function (tested against real Go, not proved from fmt's source: count such statements apart). THE CARD IS WHAT COUNTS. Prove the row's statement (the work); the ties are given (YtfcbeohkhljboaeDoorTie.lean); close each card by the builder's one call (the guide's Derived/Test/ToyasCard.lean, 'card_holds'). Laid BY PROGRAM, IN A SANDBOX (cutbox-door.mjs). By AI agents, Wed Nov 11 2026. No macro, syntax, notation, axiom, sorry.
-/
import Derived.Test.YtfcbeohkhljboaeDoorRows
import GoSem.ClaimSeven
namespace Go.Proofs.YtfcbeohkhljboaeDoor
namespace Rows

/-- THE TIED CARD OF 'hallmarklaw02.UtfReadOnly'. -/
def utfReadOnlyCard : Claim7 := { stood := { row := utfReadOnlyRow, standIns := [], harness := (true, "13f2f84d67b69a9d06ecfef85c861cc259794025155c3fdd9bb0be761764fa1f"), looks := true }, kinds := [], alts := [], laidByText := true, laidKinds := [.data, .data, .data, .sentinel, .sentinel], laidTests := true, laidLooks := .later }
def UtfReadOnlyCardSaid : Prop := Claim7.holds Tryd.pinned (.plain (OpenSpec.ofChange utfReadOnlySpec)) utfReadOnlyCard

/-- THE TIED CARD OF 'hallmarklaw03.ValueNames'. -/
def valueNamesCard : Claim7 := { stood := { row := valueNamesRow, standIns := [], harness := (true, "13f2f84d67b69a9d06ecfef85c861cc259794025155c3fdd9bb0be761764fa1f"), looks := true }, kinds := [], alts := [], laidByText := true, laidKinds := [.data], laidTests := true, laidLooks := .later }
def ValueNamesCardSaid : Prop := Claim7.holds Tryd.pinned (.plain (OpenSpec.ofChange valueNamesSpec)) valueNamesCard

/-- THE SECOND FORM's CARD OF 'hallmarklaw02.UtfReadOnly'. -/
def utfReadOnlyUptoCard : Claim7 := { stood := { row := utfReadOnlyUptoRow, standIns := [], harness := (true, "13f2f84d67b69a9d06ecfef85c861cc259794025155c3fdd9bb0be761764fa1f"), looks := true }, kinds := [], alts := [], laidByText := true, laidKinds := [.data, .data, .data, .sentinel, .sentinel], laidTests := true, laidLooks := .later }
def UtfReadOnlyUptoCardSaid : Prop := Claim7.holds Tryd.pinned (.plain (OpenSpec.upto utfReadOnlySpec)) utfReadOnlyUptoCard

/-- THE SECOND FORM's CARD OF 'hallmarklaw03.ValueNames'. -/
def valueNamesUptoCard : Claim7 := { stood := { row := valueNamesUptoRow, standIns := [], harness := (true, "13f2f84d67b69a9d06ecfef85c861cc259794025155c3fdd9bb0be761764fa1f"), looks := true }, kinds := [], alts := [], laidByText := true, laidKinds := [.data], laidTests := true, laidLooks := .later }
def ValueNamesUptoCardSaid : Prop := Claim7.holds Tryd.pinned (.plain (OpenSpec.upto valueNamesSpec)) valueNamesUptoCard
end Rows
end Go.Proofs.YtfcbeohkhljboaeDoor
