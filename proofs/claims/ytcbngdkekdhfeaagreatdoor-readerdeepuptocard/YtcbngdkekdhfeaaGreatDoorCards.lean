/-
  DERIVED. GIVEN WITH THE SEED: THE CARDS: each row of YtcbngdkekdhfeaaGreatDoorRows.lean that lists a variable, with what it lists TIED to the program's text (the seventh form; the later family's looks); each row that meets fmt, with fmt's text TOLD by the authors' own Lean function (tested against real Go, not proved from fmt's source: count such statements apart). THE CARD IS WHAT COUNTS. Prove the row's statement (the work); the ties are given (YtcbngdkekdhfeaaGreatDoorTie.lean); close each card by the builder's one call (the guide's Derived/Test/ToyasCard.lean, 'card_holds'). Laid BY PROGRAM, IN A SANDBOX (cutbox-door.mjs). By AI agents, Wed Nov 11 2026. No macro, syntax, notation, axiom, sorry.
-/
import Derived.Test.YtcbngdkekdhfeaaGreatDoorRows
import GoSem.ClaimSeven
namespace Go.Proofs.YtcbngdkekdhfeaaGreatDoor
namespace Rows

/-- THE TIED CARD OF 'hallmarklaw05.ReaderDeep'. -/
def readerDeepCard : Claim7 := { stood := { row := readerDeepRow, standIns := [], harness := (true, "9d70bc2f766ea3f7a0bb4dd0e60a1b2f04ef7c0d191e93711d31ba446109489b"), looks := true }, kinds := [], alts := [], laidByText := true, laidKinds := [.data, .data, .data, .data, .sentinel, .sentinel, .pinned], laidTests := true, laidLooks := .later }
def ReaderDeepCardSaid : Prop := Claim7.holds Tryz.pinned (.plain (OpenSpec.ofChange readerDeepSpec)) readerDeepCard

/-- THE TIED CARD OF 'hallmarklaw05.ReaderStreams'. -/
def readerStreamsCard : Claim7 := { stood := { row := readerStreamsRow, standIns := [], harness := (true, "9d70bc2f766ea3f7a0bb4dd0e60a1b2f04ef7c0d191e93711d31ba446109489b"), looks := true }, kinds := [], alts := [], laidByText := true, laidKinds := [.data, .data, .data, .data, .sentinel, .sentinel, .pinned], laidTests := true, laidLooks := .later }
def ReaderStreamsCardSaid : Prop := Claim7.holds Tryz.pinned (.plain (OpenSpec.ofChange readerStreamsSpec)) readerStreamsCard

/-- THE TIED CARD OF 'hallmarklaw05.ReaderAnswers'. -/
def readerAnswersCard : Claim7 := { stood := { row := readerAnswersRow, standIns := [], harness := (true, "9d70bc2f766ea3f7a0bb4dd0e60a1b2f04ef7c0d191e93711d31ba446109489b"), looks := true }, kinds := [], alts := [], laidByText := true, laidKinds := [.data, .data, .data, .data, .sentinel, .sentinel, .pinned], laidTests := true, laidLooks := .later }
def ReaderAnswersCardSaid : Prop := Claim7.holds Tryz.pinned (.plain (OpenSpec.ofChange readerAnswersSpec)) readerAnswersCard

/-- THE TIED CARD OF 'hallmarklaw05.ReaderBlanks'. -/
def readerBlanksCard : Claim7 := { stood := { row := readerBlanksRow, standIns := [], harness := (true, "9d70bc2f766ea3f7a0bb4dd0e60a1b2f04ef7c0d191e93711d31ba446109489b"), looks := true }, kinds := [], alts := [], laidByText := true, laidKinds := [.data, .data, .data, .data, .sentinel, .sentinel, .pinned], laidTests := true, laidLooks := .later }
def ReaderBlanksCardSaid : Prop := Claim7.holds Tryz.pinned (.plain (OpenSpec.ofChange readerBlanksSpec)) readerBlanksCard

/-- THE TIED CARD OF 'hallmarklaw05.ReaderFields'. -/
def readerFieldsCard : Claim7 := { stood := { row := readerFieldsRow, standIns := [], harness := (true, "9d70bc2f766ea3f7a0bb4dd0e60a1b2f04ef7c0d191e93711d31ba446109489b"), looks := true }, kinds := [], alts := [], laidByText := true, laidKinds := [.data, .data, .data, .data, .sentinel, .sentinel, .pinned], laidTests := true, laidLooks := .later }
def ReaderFieldsCardSaid : Prop := Claim7.holds Tryz.pinned (.plain (OpenSpec.ofChange readerFieldsSpec)) readerFieldsCard

/-- THE SECOND FORM's CARD OF 'hallmarklaw05.ReaderDeep'. -/
def readerDeepUptoCard : Claim7 := { stood := { row := readerDeepUptoRow, standIns := [], harness := (true, "9d70bc2f766ea3f7a0bb4dd0e60a1b2f04ef7c0d191e93711d31ba446109489b"), looks := true }, kinds := [], alts := [], laidByText := true, laidKinds := [.data, .data, .data, .data, .sentinel, .sentinel, .pinned], laidTests := true, laidLooks := .later }
def ReaderDeepUptoCardSaid : Prop := Claim7.holds Tryz.pinned (.plain (OpenSpec.upto readerDeepSpec)) readerDeepUptoCard

/-- THE SECOND FORM's CARD OF 'hallmarklaw05.ReaderStreams'. -/
def readerStreamsUptoCard : Claim7 := { stood := { row := readerStreamsUptoRow, standIns := [], harness := (true, "9d70bc2f766ea3f7a0bb4dd0e60a1b2f04ef7c0d191e93711d31ba446109489b"), looks := true }, kinds := [], alts := [], laidByText := true, laidKinds := [.data, .data, .data, .data, .sentinel, .sentinel, .pinned], laidTests := true, laidLooks := .later }
def ReaderStreamsUptoCardSaid : Prop := Claim7.holds Tryz.pinned (.plain (OpenSpec.upto readerStreamsSpec)) readerStreamsUptoCard

/-- THE SECOND FORM's CARD OF 'hallmarklaw05.ReaderAnswers'. -/
def readerAnswersUptoCard : Claim7 := { stood := { row := readerAnswersUptoRow, standIns := [], harness := (true, "9d70bc2f766ea3f7a0bb4dd0e60a1b2f04ef7c0d191e93711d31ba446109489b"), looks := true }, kinds := [], alts := [], laidByText := true, laidKinds := [.data, .data, .data, .data, .sentinel, .sentinel, .pinned], laidTests := true, laidLooks := .later }
def ReaderAnswersUptoCardSaid : Prop := Claim7.holds Tryz.pinned (.plain (OpenSpec.upto readerAnswersSpec)) readerAnswersUptoCard

/-- THE SECOND FORM's CARD OF 'hallmarklaw05.ReaderBlanks'. -/
def readerBlanksUptoCard : Claim7 := { stood := { row := readerBlanksUptoRow, standIns := [], harness := (true, "9d70bc2f766ea3f7a0bb4dd0e60a1b2f04ef7c0d191e93711d31ba446109489b"), looks := true }, kinds := [], alts := [], laidByText := true, laidKinds := [.data, .data, .data, .data, .sentinel, .sentinel, .pinned], laidTests := true, laidLooks := .later }
def ReaderBlanksUptoCardSaid : Prop := Claim7.holds Tryz.pinned (.plain (OpenSpec.upto readerBlanksSpec)) readerBlanksUptoCard

/-- THE SECOND FORM's CARD OF 'hallmarklaw05.ReaderFields'. -/
def readerFieldsUptoCard : Claim7 := { stood := { row := readerFieldsUptoRow, standIns := [], harness := (true, "9d70bc2f766ea3f7a0bb4dd0e60a1b2f04ef7c0d191e93711d31ba446109489b"), looks := true }, kinds := [], alts := [], laidByText := true, laidKinds := [.data, .data, .data, .data, .sentinel, .sentinel, .pinned], laidTests := true, laidLooks := .later }
def ReaderFieldsUptoCardSaid : Prop := Claim7.holds Tryz.pinned (.plain (OpenSpec.upto readerFieldsSpec)) readerFieldsUptoCard
end Rows
end Go.Proofs.YtcbngdkekdhfeaaGreatDoor
