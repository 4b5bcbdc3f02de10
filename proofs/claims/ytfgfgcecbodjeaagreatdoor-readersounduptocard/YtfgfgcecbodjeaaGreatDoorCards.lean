/-
  DERIVED. GIVEN WITH THE SEED: THE CARDS: each row of YtfgfgcecbodjeaaGreatDoorRows.lean that lists a variable, with what it lists TIED to the program's text (the seventh form; the later family's looks); each row that meets fmt, with fmt's text TOLD by the authors' own Lean function (tested against real Go, not proved from fmt's source: count such statements apart). THE CARD IS WHAT COUNTS. Prove the row's statement (the work); the ties are given (YtfgfgcecbodjeaaGreatDoorTie.lean); close each card by the builder's one call (the guide's Derived/Test/ToyasCard.lean, 'card_holds'). Laid BY PROGRAM, IN A SANDBOX (cutbox-door.mjs). By AI agents, Wed Nov 11 2026. No macro, syntax, notation, axiom, sorry.
-/
import Derived.Test.YtfgfgcecbodjeaaGreatDoorRows
import GoSem.ClaimSeven
namespace Go.Proofs.YtfgfgcecbodjeaaGreatDoor
namespace Rows

/-- THE TIED CARD OF 'hallmarklaw05.ReaderAnswers'. -/
def readerAnswersCard : Claim7 := { stood := { row := readerAnswersRow, standIns := [], harness := (true, "4b67c9d374eeb676da594845c8e8c06e942a993f559d187c14cea3e567efc050"), looks := true }, kinds := [], alts := [], laidByText := true, laidKinds := [.data, .data, .data, .data, .sentinel, .sentinel, .pinned], laidTests := true, laidLooks := .later }
def ReaderAnswersCardSaid : Prop := Claim7.holds Tryz.pinned (.plain (OpenSpec.ofChange readerAnswersSpec)) readerAnswersCard

/-- THE TIED CARD OF 'hallmarklaw05.ReaderOnes'. -/
def readerOnesCard : Claim7 := { stood := { row := readerOnesRow, standIns := [], harness := (true, "4b67c9d374eeb676da594845c8e8c06e942a993f559d187c14cea3e567efc050"), looks := true }, kinds := [], alts := [], laidByText := true, laidKinds := [.data, .data, .data, .data, .sentinel, .sentinel, .pinned], laidTests := true, laidLooks := .later }
def ReaderOnesCardSaid : Prop := Claim7.holds Tryz.pinned (.plain (OpenSpec.ofChange readerOnesSpec)) readerOnesCard

/-- THE TIED CARD OF 'hallmarklaw05.ReaderManys'. -/
def readerManysCard : Claim7 := { stood := { row := readerManysRow, standIns := [], harness := (true, "4b67c9d374eeb676da594845c8e8c06e942a993f559d187c14cea3e567efc050"), looks := true }, kinds := [], alts := [], laidByText := true, laidKinds := [.data, .data, .data, .data, .sentinel, .sentinel, .pinned], laidTests := true, laidLooks := .later }
def ReaderManysCardSaid : Prop := Claim7.holds Tryz.pinned (.plain (OpenSpec.ofChange readerManysSpec)) readerManysCard

/-- THE TIED CARD OF 'hallmarklaw05.ReaderStreams'. -/
def readerStreamsCard : Claim7 := { stood := { row := readerStreamsRow, standIns := [], harness := (true, "4b67c9d374eeb676da594845c8e8c06e942a993f559d187c14cea3e567efc050"), looks := true }, kinds := [], alts := [], laidByText := true, laidKinds := [.data, .data, .data, .data, .sentinel, .sentinel, .pinned], laidTests := true, laidLooks := .later }
def ReaderStreamsCardSaid : Prop := Claim7.holds Tryz.pinned (.plain (OpenSpec.ofChange readerStreamsSpec)) readerStreamsCard

/-- THE TIED CARD OF 'hallmarklaw05.ReaderJoins'. -/
def readerJoinsCard : Claim7 := { stood := { row := readerJoinsRow, standIns := [], harness := (true, "4b67c9d374eeb676da594845c8e8c06e942a993f559d187c14cea3e567efc050"), looks := true }, kinds := [], alts := [], laidByText := true, laidKinds := [.data, .data, .data, .data, .sentinel, .sentinel, .pinned], laidTests := true, laidLooks := .later }
def ReaderJoinsCardSaid : Prop := Claim7.holds Tryz.pinned (.plain (OpenSpec.ofChange readerJoinsSpec)) readerJoinsCard

/-- THE TIED CARD OF 'hallmarklaw05.ReaderSound'. -/
def readerSoundCard : Claim7 := { stood := { row := readerSoundRow, standIns := [], harness := (true, "4b67c9d374eeb676da594845c8e8c06e942a993f559d187c14cea3e567efc050"), looks := true }, kinds := [], alts := [], laidByText := true, laidKinds := [.data, .data, .data, .data, .sentinel, .sentinel, .pinned], laidTests := true, laidLooks := .later }
def ReaderSoundCardSaid : Prop := Claim7.holds Tryz.pinned (.plain (OpenSpec.ofChange readerSoundSpec)) readerSoundCard

/-- THE SECOND FORM's CARD OF 'hallmarklaw05.ReaderAnswers'. -/
def readerAnswersUptoCard : Claim7 := { stood := { row := readerAnswersUptoRow, standIns := [], harness := (true, "4b67c9d374eeb676da594845c8e8c06e942a993f559d187c14cea3e567efc050"), looks := true }, kinds := [], alts := [], laidByText := true, laidKinds := [.data, .data, .data, .data, .sentinel, .sentinel, .pinned], laidTests := true, laidLooks := .later }
def ReaderAnswersUptoCardSaid : Prop := Claim7.holds Tryz.pinned (.plain (OpenSpec.upto readerAnswersSpec)) readerAnswersUptoCard

/-- THE SECOND FORM's CARD OF 'hallmarklaw05.ReaderOnes'. -/
def readerOnesUptoCard : Claim7 := { stood := { row := readerOnesUptoRow, standIns := [], harness := (true, "4b67c9d374eeb676da594845c8e8c06e942a993f559d187c14cea3e567efc050"), looks := true }, kinds := [], alts := [], laidByText := true, laidKinds := [.data, .data, .data, .data, .sentinel, .sentinel, .pinned], laidTests := true, laidLooks := .later }
def ReaderOnesUptoCardSaid : Prop := Claim7.holds Tryz.pinned (.plain (OpenSpec.upto readerOnesSpec)) readerOnesUptoCard

/-- THE SECOND FORM's CARD OF 'hallmarklaw05.ReaderManys'. -/
def readerManysUptoCard : Claim7 := { stood := { row := readerManysUptoRow, standIns := [], harness := (true, "4b67c9d374eeb676da594845c8e8c06e942a993f559d187c14cea3e567efc050"), looks := true }, kinds := [], alts := [], laidByText := true, laidKinds := [.data, .data, .data, .data, .sentinel, .sentinel, .pinned], laidTests := true, laidLooks := .later }
def ReaderManysUptoCardSaid : Prop := Claim7.holds Tryz.pinned (.plain (OpenSpec.upto readerManysSpec)) readerManysUptoCard

/-- THE SECOND FORM's CARD OF 'hallmarklaw05.ReaderStreams'. -/
def readerStreamsUptoCard : Claim7 := { stood := { row := readerStreamsUptoRow, standIns := [], harness := (true, "4b67c9d374eeb676da594845c8e8c06e942a993f559d187c14cea3e567efc050"), looks := true }, kinds := [], alts := [], laidByText := true, laidKinds := [.data, .data, .data, .data, .sentinel, .sentinel, .pinned], laidTests := true, laidLooks := .later }
def ReaderStreamsUptoCardSaid : Prop := Claim7.holds Tryz.pinned (.plain (OpenSpec.upto readerStreamsSpec)) readerStreamsUptoCard

/-- THE SECOND FORM's CARD OF 'hallmarklaw05.ReaderJoins'. -/
def readerJoinsUptoCard : Claim7 := { stood := { row := readerJoinsUptoRow, standIns := [], harness := (true, "4b67c9d374eeb676da594845c8e8c06e942a993f559d187c14cea3e567efc050"), looks := true }, kinds := [], alts := [], laidByText := true, laidKinds := [.data, .data, .data, .data, .sentinel, .sentinel, .pinned], laidTests := true, laidLooks := .later }
def ReaderJoinsUptoCardSaid : Prop := Claim7.holds Tryz.pinned (.plain (OpenSpec.upto readerJoinsSpec)) readerJoinsUptoCard

/-- THE SECOND FORM's CARD OF 'hallmarklaw05.ReaderSound'. -/
def readerSoundUptoCard : Claim7 := { stood := { row := readerSoundUptoRow, standIns := [], harness := (true, "4b67c9d374eeb676da594845c8e8c06e942a993f559d187c14cea3e567efc050"), looks := true }, kinds := [], alts := [], laidByText := true, laidKinds := [.data, .data, .data, .data, .sentinel, .sentinel, .pinned], laidTests := true, laidLooks := .later }
def ReaderSoundUptoCardSaid : Prop := Claim7.holds Tryz.pinned (.plain (OpenSpec.upto readerSoundSpec)) readerSoundUptoCard
end Rows
end Go.Proofs.YtfgfgcecbodjeaaGreatDoor
