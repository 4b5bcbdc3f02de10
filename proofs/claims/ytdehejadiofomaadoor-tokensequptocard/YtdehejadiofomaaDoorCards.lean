/-
  DERIVED. GIVEN WITH THE SEED: THE CARDS: each row of YtdehejadiofomaaDoorRows.lean that lists a variable, with what it lists TIED to the program's text (the seventh form; the later family's looks); each row that meets fmt, with fmt's text TOLD by the authors' own Lean function (tested against real Go, not proved from fmt's source: count such statements apart). THE CARD IS WHAT COUNTS. Prove the row's statement (the work); the ties are given (YtdehejadiofomaaDoorTie.lean); close each card by the builder's one call (the guide's Derived/Test/ToyasCard.lean, 'card_holds'). Laid BY PROGRAM, IN A SANDBOX (cutbox-door.mjs). By AI agents, Wed Nov 11 2026. No macro, syntax, notation, axiom, sorry.
-/
import Derived.Test.YtdehejadiofomaaDoorRows
import GoSem.ClaimSeven
namespace Go.Proofs.YtdehejadiofomaaDoor
namespace Rows

/-- THE TIED CARD OF 'hallmarklaw04.TokenSeq'. -/
def tokenSeqCard : Claim7 := { stood := { row := tokenSeqRow, standIns := [], harness := (true, "0699b4c2c606d15763df3235fde6383c2834dafa0e0fbe3ee16fdcc8fdaea5d5"), looks := true }, kinds := [], alts := [], laidByText := true, laidKinds := [.data, .data, .data, .data, .sentinel, .sentinel, .pinned], laidTests := true, laidLooks := .later }
def TokenSeqCardSaid : Prop := Claim7.holds Tryd.pinned (.plain (OpenSpec.ofChange tokenSeqSpec)) tokenSeqCard

/-- THE TIED CARD OF 'hallmarklaw04.TokenGaps'. -/
def tokenGapsCard : Claim7 := { stood := { row := tokenGapsRow, standIns := [], harness := (true, "0699b4c2c606d15763df3235fde6383c2834dafa0e0fbe3ee16fdcc8fdaea5d5"), looks := true }, kinds := [], alts := [], laidByText := true, laidKinds := [.data, .data, .data, .data, .sentinel, .sentinel, .pinned], laidTests := true, laidLooks := .later }
def TokenGapsCardSaid : Prop := Claim7.holds Tryd.pinned (.plain (OpenSpec.ofChange tokenGapsSpec)) tokenGapsCard

/-- THE SECOND FORM's CARD OF 'hallmarklaw04.TokenSeq'. -/
def tokenSeqUptoCard : Claim7 := { stood := { row := tokenSeqUptoRow, standIns := [], harness := (true, "0699b4c2c606d15763df3235fde6383c2834dafa0e0fbe3ee16fdcc8fdaea5d5"), looks := true }, kinds := [], alts := [], laidByText := true, laidKinds := [.data, .data, .data, .data, .sentinel, .sentinel, .pinned], laidTests := true, laidLooks := .later }
def TokenSeqUptoCardSaid : Prop := Claim7.holds Tryd.pinned (.plain (OpenSpec.upto tokenSeqSpec)) tokenSeqUptoCard

/-- THE SECOND FORM's CARD OF 'hallmarklaw04.TokenGaps'. -/
def tokenGapsUptoCard : Claim7 := { stood := { row := tokenGapsUptoRow, standIns := [], harness := (true, "0699b4c2c606d15763df3235fde6383c2834dafa0e0fbe3ee16fdcc8fdaea5d5"), looks := true }, kinds := [], alts := [], laidByText := true, laidKinds := [.data, .data, .data, .data, .sentinel, .sentinel, .pinned], laidTests := true, laidLooks := .later }
def TokenGapsUptoCardSaid : Prop := Claim7.holds Tryd.pinned (.plain (OpenSpec.upto tokenGapsSpec)) tokenGapsUptoCard
end Rows
end Go.Proofs.YtdehejadiofomaaDoor
