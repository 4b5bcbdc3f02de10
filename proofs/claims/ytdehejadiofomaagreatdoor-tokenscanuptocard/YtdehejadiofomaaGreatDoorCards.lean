/-
  DERIVED. GIVEN WITH THE SEED: THE CARDS: each row of YtdehejadiofomaaGreatDoorRows.lean that lists a variable, with what it lists TIED to the program's text (the seventh form; the later family's looks); each row that meets fmt, with fmt's text TOLD by the authors' own Lean function (tested against real Go, not proved from fmt's source: count such statements apart). THE CARD IS WHAT COUNTS. Prove the row's statement (the work); the ties are given (YtdehejadiofomaaGreatDoorTie.lean); close each card by the builder's one call (the guide's Derived/Test/ToyasCard.lean, 'card_holds'). Laid BY PROGRAM, IN A SANDBOX (cutbox-door.mjs). By AI agents, Wed Nov 11 2026. No macro, syntax, notation, axiom, sorry.
-/
import Derived.Test.YtdehejadiofomaaGreatDoorRows
import GoSem.ClaimSeven
namespace Go.Proofs.YtdehejadiofomaaGreatDoor
namespace Rows

/-- THE TIED CARD OF 'hallmarklaw04.TokenScan'. -/
def tokenScanCard : Claim7 := { stood := { row := tokenScanRow, standIns := [], harness := (true, "85d28dca322eb96f9e0aa74ba56bc3f49da724490aea631db71db57fd11229c1"), looks := true }, kinds := [], alts := [], laidByText := true, laidKinds := [.data, .data, .data, .data, .sentinel, .sentinel, .pinned], laidTests := true, laidLooks := .later }
def TokenScanCardSaid : Prop := Claim7.holds Tryz.pinned (.plain (OpenSpec.ofChange tokenScanSpec)) tokenScanCard

/-- THE SECOND FORM's CARD OF 'hallmarklaw04.TokenScan'. -/
def tokenScanUptoCard : Claim7 := { stood := { row := tokenScanUptoRow, standIns := [], harness := (true, "85d28dca322eb96f9e0aa74ba56bc3f49da724490aea631db71db57fd11229c1"), looks := true }, kinds := [], alts := [], laidByText := true, laidKinds := [.data, .data, .data, .data, .sentinel, .sentinel, .pinned], laidTests := true, laidLooks := .later }
def TokenScanUptoCardSaid : Prop := Claim7.holds Tryz.pinned (.plain (OpenSpec.upto tokenScanSpec)) tokenScanUptoCard
end Rows
end Go.Proofs.YtdehejadiofomaaGreatDoor
