/-
  DERIVED. GIVEN WITH THE SEED: THE CARDS: each row of YtcpnodkcnblkdaaGreatDoorRows.lean that lists a variable, with what it lists TIED to the program's text (the seventh form; the later family's looks); each row that meets fmt, with fmt's text TOLD by the authors' own Lean function (tested against real Go, not proved from fmt's source: count such statements apart). THE CARD IS WHAT COUNTS. Prove the row's statement (the work); the ties are given (YtcpnodkcnblkdaaGreatDoorTie.lean); close each card by the builder's one call (the guide's Derived/Test/ToyasCard.lean, 'card_holds'). Laid BY PROGRAM, IN A SANDBOX (cutbox-door.mjs). By AI agents, Wed Nov 11 2026. No macro, syntax, notation, axiom, sorry.
-/
import Derived.Test.YtcpnodkcnblkdaaGreatDoorRows
import GoSem.ClaimSeven
namespace Go.Proofs.YtcpnodkcnblkdaaGreatDoor
namespace Rows

/-- THE TIED CARD OF 'hallmarklaw06.WriterRead'. -/
def writerReadCard : Claim7 := { stood := { row := writerReadRow, standIns := [], harness := (true, "34570760b338e5dac1d9ff5dd0dba4a5ed01f4eac8cf66f2874d75a68618686d"), looks := true }, kinds := [], alts := [], laidByText := true, laidKinds := [.data, .data, .data, .data, .sentinel, .sentinel, .data, .pinned], laidTests := true, laidLooks := .later }
def WriterReadCardSaid : Prop := Claim7.holds Tryz.pinned (.plain (OpenSpec.ofChange writerReadSpec)) writerReadCard

/-- THE TIED CARD OF 'hallmarktop.WholeText'. -/
def wholeTextCard : Claim7 := { stood := { row := wholeTextRow, standIns := [], harness := (true, "34570760b338e5dac1d9ff5dd0dba4a5ed01f4eac8cf66f2874d75a68618686d"), looks := true }, kinds := [], alts := [], laidByText := true, laidKinds := [.data, .data, .data, .data, .sentinel, .sentinel, .data, .pinned], laidTests := true, laidLooks := .later }
def WholeTextCardSaid : Prop := Claim7.holds Tryz.pinned (.plain (OpenSpec.ofChange wholeTextSpec)) wholeTextCard

/-- THE TIED CARD OF 'hallmarktop.WholeBytes'. -/
def wholeBytesCard : Claim7 := { stood := { row := wholeBytesRow, standIns := [], harness := (true, "34570760b338e5dac1d9ff5dd0dba4a5ed01f4eac8cf66f2874d75a68618686d"), looks := true }, kinds := [], alts := [], laidByText := true, laidKinds := [.data, .data, .data, .data, .sentinel, .sentinel, .data, .pinned], laidTests := true, laidLooks := .later }
def WholeBytesCardSaid : Prop := Claim7.holds Tryz.pinned (.plain (OpenSpec.ofChange wholeBytesSpec)) wholeBytesCard

/-- THE SECOND FORM's CARD OF 'hallmarklaw06.WriterRead'. -/
def writerReadUptoCard : Claim7 := { stood := { row := writerReadUptoRow, standIns := [], harness := (true, "34570760b338e5dac1d9ff5dd0dba4a5ed01f4eac8cf66f2874d75a68618686d"), looks := true }, kinds := [], alts := [], laidByText := true, laidKinds := [.data, .data, .data, .data, .sentinel, .sentinel, .data, .pinned], laidTests := true, laidLooks := .later }
def WriterReadUptoCardSaid : Prop := Claim7.holds Tryz.pinned (.plain (OpenSpec.upto writerReadSpec)) writerReadUptoCard

/-- THE SECOND FORM's CARD OF 'hallmarktop.WholeText'. -/
def wholeTextUptoCard : Claim7 := { stood := { row := wholeTextUptoRow, standIns := [], harness := (true, "34570760b338e5dac1d9ff5dd0dba4a5ed01f4eac8cf66f2874d75a68618686d"), looks := true }, kinds := [], alts := [], laidByText := true, laidKinds := [.data, .data, .data, .data, .sentinel, .sentinel, .data, .pinned], laidTests := true, laidLooks := .later }
def WholeTextUptoCardSaid : Prop := Claim7.holds Tryz.pinned (.plain (OpenSpec.upto wholeTextSpec)) wholeTextUptoCard

/-- THE SECOND FORM's CARD OF 'hallmarktop.WholeBytes'. -/
def wholeBytesUptoCard : Claim7 := { stood := { row := wholeBytesUptoRow, standIns := [], harness := (true, "34570760b338e5dac1d9ff5dd0dba4a5ed01f4eac8cf66f2874d75a68618686d"), looks := true }, kinds := [], alts := [], laidByText := true, laidKinds := [.data, .data, .data, .data, .sentinel, .sentinel, .data, .pinned], laidTests := true, laidLooks := .later }
def WholeBytesUptoCardSaid : Prop := Claim7.holds Tryz.pinned (.plain (OpenSpec.upto wholeBytesSpec)) wholeBytesUptoCard
end Rows
end Go.Proofs.YtcpnodkcnblkdaaGreatDoor
