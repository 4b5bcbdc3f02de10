/-
  DERIVED. GIVEN WITH THE SEED: THE CARDS: each row of YtdmkfdaddacdhaaGreatDoorRows.lean that lists a variable, with what it lists TIED to the program's text (the seventh form; the later family's looks); each row that meets fmt, with fmt's text TOLD by the authors' own Lean function (tested against real Go, not proved from fmt's source: count such statements apart). THE CARD IS WHAT COUNTS. Prove the row's statement (the work); the ties are given (YtdmkfdaddacdhaaGreatDoorTie.lean); close each card by the builder's one call (the guide's Derived/Test/ToyasCard.lean, 'card_holds'). Laid BY PROGRAM, IN A SANDBOX (cutbox-door.mjs). By AI agents, Wed Nov 11 2026. No macro, syntax, notation, axiom, sorry.
-/
import Derived.Test.YtdmkfdaddacdhaaGreatDoorRows
import GoSem.ClaimSeven
namespace Go.Proofs.YtdmkfdaddacdhaaGreatDoor
namespace Rows

/-- THE TIED CARD OF 'hallmarklaw17.SyntaxParse'. -/
def syntaxParseCard : Claim7 := { stood := { row := syntaxParseRow, standIns := [], harness := (true, "45d868ce9a94a0fa61a2877d01536b09c45965ec39dcbe807c98c84a1133eafe"), looks := true }, kinds := [], alts := [], laidByText := true, laidKinds := [.data, .data, .data, .sentinel, .sentinel, .data], laidTests := true, laidLooks := .later }
def SyntaxParseCardSaid : Prop := Claim7.holds Tryz.pinned (.plain (OpenSpec.ofChange syntaxParseSpec)) syntaxParseCard

/-- THE TIED CARD OF 'hallmarklaw17.SyntaxFormed'. -/
def syntaxFormedCard : Claim7 := { stood := { row := syntaxFormedRow, standIns := [], harness := (true, "45d868ce9a94a0fa61a2877d01536b09c45965ec39dcbe807c98c84a1133eafe"), looks := true }, kinds := [], alts := [], laidByText := true, laidKinds := [.data, .data, .data, .sentinel, .sentinel, .data], laidTests := true, laidLooks := .later }
def SyntaxFormedCardSaid : Prop := Claim7.holds Tryz.pinned (.plain (OpenSpec.ofChange syntaxFormedSpec)) syntaxFormedCard

/-- THE TIED CARD OF 'hallmarklaw17.SyntaxSame'. -/
def syntaxSameCard : Claim7 := { stood := { row := syntaxSameRow, standIns := [], harness := (true, "45d868ce9a94a0fa61a2877d01536b09c45965ec39dcbe807c98c84a1133eafe"), looks := true }, kinds := [], alts := [], laidByText := true, laidKinds := [.data, .data, .data, .sentinel, .sentinel, .data], laidTests := true, laidLooks := .later }
def SyntaxSameCardSaid : Prop := Claim7.holds Tryz.pinned (.plain (OpenSpec.ofChange syntaxSameSpec)) syntaxSameCard

/-- THE TIED CARD OF 'hallmarklaw17.SyntaxWell'. -/
def syntaxWellCard : Claim7 := { stood := { row := syntaxWellRow, standIns := [], harness := (true, "45d868ce9a94a0fa61a2877d01536b09c45965ec39dcbe807c98c84a1133eafe"), looks := true }, kinds := [], alts := [], laidByText := true, laidKinds := [.data, .data, .data, .sentinel, .sentinel, .data], laidTests := true, laidLooks := .later }
def SyntaxWellCardSaid : Prop := Claim7.holds Tryz.pinned (.plain (OpenSpec.ofChange syntaxWellSpec)) syntaxWellCard

/-- THE TIED CARD OF 'hallmarklaw17.SyntaxBlanks'. -/
def syntaxBlanksCard : Claim7 := { stood := { row := syntaxBlanksRow, standIns := [], harness := (true, "45d868ce9a94a0fa61a2877d01536b09c45965ec39dcbe807c98c84a1133eafe"), looks := true }, kinds := [], alts := [], laidByText := true, laidKinds := [.data, .data, .data, .sentinel, .sentinel, .data], laidTests := true, laidLooks := .later }
def SyntaxBlanksCardSaid : Prop := Claim7.holds Tryz.pinned (.plain (OpenSpec.ofChange syntaxBlanksSpec)) syntaxBlanksCard

/-- THE TIED CARD OF 'hallmarklaw17.SyntaxBrackets'. -/
def syntaxBracketsCard : Claim7 := { stood := { row := syntaxBracketsRow, standIns := [], harness := (true, "45d868ce9a94a0fa61a2877d01536b09c45965ec39dcbe807c98c84a1133eafe"), looks := true }, kinds := [], alts := [], laidByText := true, laidKinds := [.data, .data, .data, .sentinel, .sentinel, .data], laidTests := true, laidLooks := .later }
def SyntaxBracketsCardSaid : Prop := Claim7.holds Tryz.pinned (.plain (OpenSpec.ofChange syntaxBracketsSpec)) syntaxBracketsCard

/-- THE SECOND FORM's CARD OF 'hallmarklaw17.SyntaxParse'. -/
def syntaxParseUptoCard : Claim7 := { stood := { row := syntaxParseUptoRow, standIns := [], harness := (true, "45d868ce9a94a0fa61a2877d01536b09c45965ec39dcbe807c98c84a1133eafe"), looks := true }, kinds := [], alts := [], laidByText := true, laidKinds := [.data, .data, .data, .sentinel, .sentinel, .data], laidTests := true, laidLooks := .later }
def SyntaxParseUptoCardSaid : Prop := Claim7.holds Tryz.pinned (.plain (OpenSpec.upto syntaxParseSpec)) syntaxParseUptoCard

/-- THE SECOND FORM's CARD OF 'hallmarklaw17.SyntaxFormed'. -/
def syntaxFormedUptoCard : Claim7 := { stood := { row := syntaxFormedUptoRow, standIns := [], harness := (true, "45d868ce9a94a0fa61a2877d01536b09c45965ec39dcbe807c98c84a1133eafe"), looks := true }, kinds := [], alts := [], laidByText := true, laidKinds := [.data, .data, .data, .sentinel, .sentinel, .data], laidTests := true, laidLooks := .later }
def SyntaxFormedUptoCardSaid : Prop := Claim7.holds Tryz.pinned (.plain (OpenSpec.upto syntaxFormedSpec)) syntaxFormedUptoCard

/-- THE SECOND FORM's CARD OF 'hallmarklaw17.SyntaxSame'. -/
def syntaxSameUptoCard : Claim7 := { stood := { row := syntaxSameUptoRow, standIns := [], harness := (true, "45d868ce9a94a0fa61a2877d01536b09c45965ec39dcbe807c98c84a1133eafe"), looks := true }, kinds := [], alts := [], laidByText := true, laidKinds := [.data, .data, .data, .sentinel, .sentinel, .data], laidTests := true, laidLooks := .later }
def SyntaxSameUptoCardSaid : Prop := Claim7.holds Tryz.pinned (.plain (OpenSpec.upto syntaxSameSpec)) syntaxSameUptoCard

/-- THE SECOND FORM's CARD OF 'hallmarklaw17.SyntaxWell'. -/
def syntaxWellUptoCard : Claim7 := { stood := { row := syntaxWellUptoRow, standIns := [], harness := (true, "45d868ce9a94a0fa61a2877d01536b09c45965ec39dcbe807c98c84a1133eafe"), looks := true }, kinds := [], alts := [], laidByText := true, laidKinds := [.data, .data, .data, .sentinel, .sentinel, .data], laidTests := true, laidLooks := .later }
def SyntaxWellUptoCardSaid : Prop := Claim7.holds Tryz.pinned (.plain (OpenSpec.upto syntaxWellSpec)) syntaxWellUptoCard

/-- THE SECOND FORM's CARD OF 'hallmarklaw17.SyntaxBlanks'. -/
def syntaxBlanksUptoCard : Claim7 := { stood := { row := syntaxBlanksUptoRow, standIns := [], harness := (true, "45d868ce9a94a0fa61a2877d01536b09c45965ec39dcbe807c98c84a1133eafe"), looks := true }, kinds := [], alts := [], laidByText := true, laidKinds := [.data, .data, .data, .sentinel, .sentinel, .data], laidTests := true, laidLooks := .later }
def SyntaxBlanksUptoCardSaid : Prop := Claim7.holds Tryz.pinned (.plain (OpenSpec.upto syntaxBlanksSpec)) syntaxBlanksUptoCard

/-- THE SECOND FORM's CARD OF 'hallmarklaw17.SyntaxBrackets'. -/
def syntaxBracketsUptoCard : Claim7 := { stood := { row := syntaxBracketsUptoRow, standIns := [], harness := (true, "45d868ce9a94a0fa61a2877d01536b09c45965ec39dcbe807c98c84a1133eafe"), looks := true }, kinds := [], alts := [], laidByText := true, laidKinds := [.data, .data, .data, .sentinel, .sentinel, .data], laidTests := true, laidLooks := .later }
def SyntaxBracketsUptoCardSaid : Prop := Claim7.holds Tryz.pinned (.plain (OpenSpec.upto syntaxBracketsSpec)) syntaxBracketsUptoCard
end Rows
end Go.Proofs.YtdmkfdaddacdhaaGreatDoor
