/-
  DERIVED. GIVEN WITH THE SEED: THE CARDS: each row of YtbpopnafcpfifaaGreatDoorRows.lean that lists a variable, with what it lists TIED to the program's text (the seventh form; the later family's looks); each row that meets fmt, with fmt's text TOLD by the authors' own Lean function (tested against real Go, not proved from fmt's source: count such statements apart). THE CARD IS WHAT COUNTS. Prove the row's statement (the work); the ties are given (YtbpopnafcpfifaaGreatDoorTie.lean); close each card by the builder's one call (the guide's Derived/Test/ToyasCard.lean, 'card_holds'). Laid BY PROGRAM, IN A SANDBOX (cutbox-door.mjs). By AI agents, Wed Nov 11 2026. No macro, syntax, notation, axiom, sorry.
-/
import Derived.Test.YtbpopnafcpfifaaGreatDoorRows
import GoSem.ClaimSeven
namespace Go.Proofs.YtbpopnafcpfifaaGreatDoor
namespace Rows

/-- THE TIED CARD OF 'hallmarklaw17.SyntaxWell'. -/
def syntaxWellCard : Claim7 := { stood := { row := syntaxWellRow, standIns := [], harness := (true, "415bc7a03a3a48380e9d6a72cc8b42678642e3f0e0f61ba52ce5b35b3f862650"), looks := true }, kinds := [], alts := [], laidByText := true, laidKinds := [.data, .data, .data, .sentinel, .sentinel, .data], laidTests := true, laidLooks := .later }
def SyntaxWellCardSaid : Prop := Claim7.holds Tryz.pinned (.plain (OpenSpec.ofChange syntaxWellSpec)) syntaxWellCard

/-- THE TIED CARD OF 'hallmarklaw17.SyntaxBlanks'. -/
def syntaxBlanksCard : Claim7 := { stood := { row := syntaxBlanksRow, standIns := [], harness := (true, "415bc7a03a3a48380e9d6a72cc8b42678642e3f0e0f61ba52ce5b35b3f862650"), looks := true }, kinds := [], alts := [], laidByText := true, laidKinds := [.data, .data, .data, .sentinel, .sentinel, .data], laidTests := true, laidLooks := .later }
def SyntaxBlanksCardSaid : Prop := Claim7.holds Tryz.pinned (.plain (OpenSpec.ofChange syntaxBlanksSpec)) syntaxBlanksCard

/-- THE SECOND FORM's CARD OF 'hallmarklaw17.SyntaxWell'. -/
def syntaxWellUptoCard : Claim7 := { stood := { row := syntaxWellUptoRow, standIns := [], harness := (true, "415bc7a03a3a48380e9d6a72cc8b42678642e3f0e0f61ba52ce5b35b3f862650"), looks := true }, kinds := [], alts := [], laidByText := true, laidKinds := [.data, .data, .data, .sentinel, .sentinel, .data], laidTests := true, laidLooks := .later }
def SyntaxWellUptoCardSaid : Prop := Claim7.holds Tryz.pinned (.plain (OpenSpec.upto syntaxWellSpec)) syntaxWellUptoCard

/-- THE SECOND FORM's CARD OF 'hallmarklaw17.SyntaxBlanks'. -/
def syntaxBlanksUptoCard : Claim7 := { stood := { row := syntaxBlanksUptoRow, standIns := [], harness := (true, "415bc7a03a3a48380e9d6a72cc8b42678642e3f0e0f61ba52ce5b35b3f862650"), looks := true }, kinds := [], alts := [], laidByText := true, laidKinds := [.data, .data, .data, .sentinel, .sentinel, .data], laidTests := true, laidLooks := .later }
def SyntaxBlanksUptoCardSaid : Prop := Claim7.holds Tryz.pinned (.plain (OpenSpec.upto syntaxBlanksSpec)) syntaxBlanksUptoCard
end Rows
end Go.Proofs.YtbpopnafcpfifaaGreatDoor
