/-
  DERIVED. GIVEN WITH THE SEED: THE CARDS: each row of YtcadknhedfnaoaaGreatDoorRows.lean that lists a variable, with what it lists TIED to the program's text (the seventh form; the later family's looks); each row that meets fmt, with fmt's text TOLD by the authors' own Lean function (tested against real Go, not proved from fmt's source: count such statements apart). THE CARD IS WHAT COUNTS. Prove the row's statement (the work); the ties are given (YtcadknhedfnaoaaGreatDoorTie.lean); close each card by the builder's one call (the guide's Derived/Test/ToyasCard.lean, 'card_holds'). Laid BY PROGRAM, IN A SANDBOX (cutbox-door.mjs). By AI agents, Wed Nov 11 2026. No macro, syntax, notation, axiom, sorry.
-/
import Derived.Test.YtcadknhedfnaoaaGreatDoorRows
import GoSem.ClaimSeven
namespace Go.Proofs.YtcadknhedfnaoaaGreatDoor
namespace Rows

/-- THE TIED CARD OF 'hallmarklaw18.ShowText'. -/
def showTextCard : Claim7 := { stood := { row := showTextRow, standIns := [], harness := (true, "7ce1bdc2075af8fc306cbb284673c8d47b7e7e711f0966e499d579e31d01268b"), looks := false }, kinds := [], alts := [], laidByText := true, laidKinds := [.data], laidTests := true, laidLooks := .later }
def ShowTextCardSaid : Prop := Claim7.holds Tryz.pinned (.plain (OpenSpec.ofChange showTextSpec)) showTextCard

/-- THE TIED CARD OF 'hallmarklaw18.ShowKey'. -/
def showKeyCard : Claim7 := { stood := { row := showKeyRow, standIns := [], harness := (true, "7ce1bdc2075af8fc306cbb284673c8d47b7e7e711f0966e499d579e31d01268b"), looks := false }, kinds := [], alts := [], laidByText := true, laidKinds := [.data], laidTests := true, laidLooks := .later }
def ShowKeyCardSaid : Prop := Claim7.holds Tryz.pinned (.plain (OpenSpec.ofChange showKeySpec)) showKeyCard

/-- THE SECOND FORM's CARD OF 'hallmarklaw18.ShowText'. -/
def showTextUptoCard : Claim7 := { stood := { row := showTextUptoRow, standIns := [], harness := (true, "7ce1bdc2075af8fc306cbb284673c8d47b7e7e711f0966e499d579e31d01268b"), looks := false }, kinds := [], alts := [], laidByText := true, laidKinds := [.data], laidTests := true, laidLooks := .later }
def ShowTextUptoCardSaid : Prop := Claim7.holds Tryz.pinned (.plain (OpenSpec.upto showTextSpec)) showTextUptoCard

/-- THE SECOND FORM's CARD OF 'hallmarklaw18.ShowKey'. -/
def showKeyUptoCard : Claim7 := { stood := { row := showKeyUptoRow, standIns := [], harness := (true, "7ce1bdc2075af8fc306cbb284673c8d47b7e7e711f0966e499d579e31d01268b"), looks := false }, kinds := [], alts := [], laidByText := true, laidKinds := [.data], laidTests := true, laidLooks := .later }
def ShowKeyUptoCardSaid : Prop := Claim7.holds Tryz.pinned (.plain (OpenSpec.upto showKeySpec)) showKeyUptoCard
end Rows
end Go.Proofs.YtcadknhedfnaoaaGreatDoor
