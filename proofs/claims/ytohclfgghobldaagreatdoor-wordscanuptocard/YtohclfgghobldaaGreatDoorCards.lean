/-
  DERIVED. GIVEN WITH THE SEED: THE CARDS: each row of YtohclfgghobldaaGreatDoorRows.lean that lists a variable, with what it lists TIED to the program's text (the seventh form; the later family's looks); each row that meets fmt, with fmt's text TOLD by the authors' own Lean function (tested against real Go, not proved from fmt's source: count such statements apart). THE CARD IS WHAT COUNTS. Prove the row's statement (the work); the ties are given (YtohclfgghobldaaGreatDoorTie.lean); close each card by the builder's one call (the guide's Derived/Test/ToyasCard.lean, 'card_holds'). Laid BY PROGRAM, IN A SANDBOX (cutbox-door.mjs). By AI agents, Wed Nov 11 2026. No macro, syntax, notation, axiom, sorry.
-/
import Derived.Test.YtohclfgghobldaaGreatDoorRows
import GoSem.ClaimSeven
namespace Go.Proofs.YtohclfgghobldaaGreatDoor
namespace Rows

/-- THE TIED CARD OF 'hallmarklaw16.WordScan'. -/
def wordScanCard : Claim7 := { stood := { row := wordScanRow, standIns := [], harness := (true, "0ff85f8d1af52eb52a95519b1330abdc86aa01e1f980c54dd4f65b73cd2400b8"), looks := true }, kinds := [], alts := [], laidByText := true, laidKinds := [.data, .data, .data, .sentinel, .sentinel], laidTests := true, laidLooks := .later }
def WordScanCardSaid : Prop := Claim7.holds Tryz.pinned (.plain (OpenSpec.ofChange wordScanSpec)) wordScanCard

/-- THE SECOND FORM's CARD OF 'hallmarklaw16.WordScan'. -/
def wordScanUptoCard : Claim7 := { stood := { row := wordScanUptoRow, standIns := [], harness := (true, "0ff85f8d1af52eb52a95519b1330abdc86aa01e1f980c54dd4f65b73cd2400b8"), looks := true }, kinds := [], alts := [], laidByText := true, laidKinds := [.data, .data, .data, .sentinel, .sentinel], laidTests := true, laidLooks := .later }
def WordScanUptoCardSaid : Prop := Claim7.holds Tryz.pinned (.plain (OpenSpec.upto wordScanSpec)) wordScanUptoCard
end Rows
end Go.Proofs.YtohclfgghobldaaGreatDoor
