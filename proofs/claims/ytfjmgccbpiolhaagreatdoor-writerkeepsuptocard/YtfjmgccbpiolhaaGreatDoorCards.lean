/-
  DERIVED. GIVEN WITH THE SEED: THE CARDS: each row of YtfjmgccbpiolhaaGreatDoorRows.lean that lists a variable, with what it lists TIED to the program's text (the seventh form; the later family's looks); each row that meets fmt, with fmt's text TOLD by the authors' own Lean function (tested against real Go, not proved from fmt's source: count such statements apart). THE CARD IS WHAT COUNTS. Prove the row's statement (the work); the ties are given (YtfjmgccbpiolhaaGreatDoorTie.lean); close each card by the builder's one call (the guide's Derived/Test/ToyasCard.lean, 'card_holds'). Laid BY PROGRAM, IN A SANDBOX (cutbox-door.mjs). By AI agents, Wed Nov 11 2026. No macro, syntax, notation, axiom, sorry.
-/
import Derived.Test.YtfjmgccbpiolhaaGreatDoorRows
import GoSem.ClaimSeven
namespace Go.Proofs.YtfjmgccbpiolhaaGreatDoor
namespace Rows

/-- THE TIED CARD OF 'hallmarklaw06.WriterKeeps'. -/
def writerKeepsCard : Claim7 := { stood := { row := writerKeepsRow, standIns := [], harness := (true, "b14e02ed789802da4af0640795555ebab4aa9d6ebbf1884aef9f59a786ca5b00"), looks := true }, kinds := [], alts := [], laidByText := true, laidKinds := [.data], laidTests := true, laidLooks := .later }
def WriterKeepsCardSaid : Prop := Claim7.holds Tryz.pinned (.plain (OpenSpec.ofChange writerKeepsSpec)) writerKeepsCard

/-- THE TIED CARD OF 'hallmarktop.WholeBytes'. -/
def wholeBytesCard : Claim7 := { stood := { row := wholeBytesRow, standIns := [], harness := (true, "b14e02ed789802da4af0640795555ebab4aa9d6ebbf1884aef9f59a786ca5b00"), looks := true }, kinds := [], alts := [], laidByText := true, laidKinds := [.data, .data, .data, .data, .sentinel, .sentinel, .data, .pinned], laidTests := true, laidLooks := .later }
def WholeBytesCardSaid : Prop := Claim7.holds Tryz.pinned (.plain (OpenSpec.ofChange wholeBytesSpec)) wholeBytesCard

/-- THE SECOND FORM's CARD OF 'hallmarklaw06.WriterKeeps'. -/
def writerKeepsUptoCard : Claim7 := { stood := { row := writerKeepsUptoRow, standIns := [], harness := (true, "b14e02ed789802da4af0640795555ebab4aa9d6ebbf1884aef9f59a786ca5b00"), looks := true }, kinds := [], alts := [], laidByText := true, laidKinds := [.data], laidTests := true, laidLooks := .later }
def WriterKeepsUptoCardSaid : Prop := Claim7.holds Tryz.pinned (.plain (OpenSpec.upto writerKeepsSpec)) writerKeepsUptoCard

/-- THE SECOND FORM's CARD OF 'hallmarktop.WholeBytes'. -/
def wholeBytesUptoCard : Claim7 := { stood := { row := wholeBytesUptoRow, standIns := [], harness := (true, "b14e02ed789802da4af0640795555ebab4aa9d6ebbf1884aef9f59a786ca5b00"), looks := true }, kinds := [], alts := [], laidByText := true, laidKinds := [.data, .data, .data, .data, .sentinel, .sentinel, .data, .pinned], laidTests := true, laidLooks := .later }
def WholeBytesUptoCardSaid : Prop := Claim7.holds Tryz.pinned (.plain (OpenSpec.upto wholeBytesSpec)) wholeBytesUptoCard
end Rows
end Go.Proofs.YtfjmgccbpiolhaaGreatDoor
