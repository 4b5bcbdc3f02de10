/-
  DERIVED. GIVEN WITH THE SEED: THE CARDS: each row of YtgnaeddpdomgkabDoorRows.lean that lists a variable, with what it lists TIED to the program's text (the seventh form; the later family's looks); each row that meets fmt, with fmt's text TOLD by the authors' own Lean function (tested against real Go, not proved from fmt's source: count such statements apart). THE CARD IS WHAT COUNTS. Prove the row's statement (the work); the ties are given (YtgnaeddpdomgkabDoorTie.lean); close each card by the builder's one call (the guide's Derived/Test/ToyasCard.lean, 'card_holds'). Laid BY PROGRAM, IN A SANDBOX (cutbox-door.mjs). By AI agents, Wed Nov 11 2026. No macro, syntax, notation, axiom, sorry.
-/
import Derived.Test.YtgnaeddpdomgkabDoorRows
import GoSem.ClaimSeven
namespace Go.Proofs.YtgnaeddpdomgkabDoor
namespace Rows

/-- THE TIED CARD OF 'hallmarklaw01.TensKnown'. -/
def tensKnownCard : Claim7 := { stood := { row := tensKnownRow, standIns := [], harness := (true, "a9f9e99e4ea4b36a610301bd0adbabd6588ecf703d716950e1e80483ccc0b86a"), looks := false }, kinds := [], alts := [], laidByText := true, laidKinds := [.data, .data, .data], laidTests := true, laidLooks := .later }
def TensKnownCardSaid : Prop := Claim7.holds Tryd.pinned (.plain (OpenSpec.ofChange tensKnownSpec)) tensKnownCard

/-- THE TIED CARD OF 'hallmarklaw01.TensRing'. -/
def tensRingCard : Claim7 := { stood := { row := tensRingRow, standIns := [], harness := (true, "a9f9e99e4ea4b36a610301bd0adbabd6588ecf703d716950e1e80483ccc0b86a"), looks := false }, kinds := [], alts := [], laidByText := true, laidKinds := [.data, .data, .data], laidTests := true, laidLooks := .later }
def TensRingCardSaid : Prop := Claim7.holds Tryd.pinned (.plain (OpenSpec.ofChange tensRingSpec)) tensRingCard

/-- THE TIED CARD OF 'hallmarklaw01.TensMoves'. -/
def tensMovesCard : Claim7 := { stood := { row := tensMovesRow, standIns := [], harness := (true, "a9f9e99e4ea4b36a610301bd0adbabd6588ecf703d716950e1e80483ccc0b86a"), looks := false }, kinds := [], alts := [], laidByText := true, laidKinds := [.data, .data, .data], laidTests := true, laidLooks := .later }
def TensMovesCardSaid : Prop := Claim7.holds Tryd.pinned (.plain (OpenSpec.ofChange tensMovesSpec)) tensMovesCard

/-- THE TIED CARD OF 'hallmarklaw01.TensDivides'. -/
def tensDividesCard : Claim7 := { stood := { row := tensDividesRow, standIns := [], harness := (true, "a9f9e99e4ea4b36a610301bd0adbabd6588ecf703d716950e1e80483ccc0b86a"), looks := false }, kinds := [], alts := [], laidByText := true, laidKinds := [.data, .data, .data], laidTests := true, laidLooks := .later }
def TensDividesCardSaid : Prop := Claim7.holds Tryd.pinned (.plain (OpenSpec.ofChange tensDividesSpec)) tensDividesCard

/-- THE TIED CARD OF 'hallmarklaw01.TensRoots'. -/
def tensRootsCard : Claim7 := { stood := { row := tensRootsRow, standIns := [], harness := (true, "a9f9e99e4ea4b36a610301bd0adbabd6588ecf703d716950e1e80483ccc0b86a"), looks := false }, kinds := [], alts := [], laidByText := true, laidKinds := [.data, .data, .data], laidTests := true, laidLooks := .later }
def TensRootsCardSaid : Prop := Claim7.holds Tryd.pinned (.plain (OpenSpec.ofChange tensRootsSpec)) tensRootsCard

/-- THE SECOND FORM's CARD OF 'hallmarklaw01.TensKnown'. -/
def tensKnownUptoCard : Claim7 := { stood := { row := tensKnownUptoRow, standIns := [], harness := (true, "a9f9e99e4ea4b36a610301bd0adbabd6588ecf703d716950e1e80483ccc0b86a"), looks := false }, kinds := [], alts := [], laidByText := true, laidKinds := [.data, .data, .data], laidTests := true, laidLooks := .later }
def TensKnownUptoCardSaid : Prop := Claim7.holds Tryd.pinned (.plain (OpenSpec.upto tensKnownSpec)) tensKnownUptoCard

/-- THE SECOND FORM's CARD OF 'hallmarklaw01.TensRing'. -/
def tensRingUptoCard : Claim7 := { stood := { row := tensRingUptoRow, standIns := [], harness := (true, "a9f9e99e4ea4b36a610301bd0adbabd6588ecf703d716950e1e80483ccc0b86a"), looks := false }, kinds := [], alts := [], laidByText := true, laidKinds := [.data, .data, .data], laidTests := true, laidLooks := .later }
def TensRingUptoCardSaid : Prop := Claim7.holds Tryd.pinned (.plain (OpenSpec.upto tensRingSpec)) tensRingUptoCard

/-- THE SECOND FORM's CARD OF 'hallmarklaw01.TensMoves'. -/
def tensMovesUptoCard : Claim7 := { stood := { row := tensMovesUptoRow, standIns := [], harness := (true, "a9f9e99e4ea4b36a610301bd0adbabd6588ecf703d716950e1e80483ccc0b86a"), looks := false }, kinds := [], alts := [], laidByText := true, laidKinds := [.data, .data, .data], laidTests := true, laidLooks := .later }
def TensMovesUptoCardSaid : Prop := Claim7.holds Tryd.pinned (.plain (OpenSpec.upto tensMovesSpec)) tensMovesUptoCard

/-- THE SECOND FORM's CARD OF 'hallmarklaw01.TensDivides'. -/
def tensDividesUptoCard : Claim7 := { stood := { row := tensDividesUptoRow, standIns := [], harness := (true, "a9f9e99e4ea4b36a610301bd0adbabd6588ecf703d716950e1e80483ccc0b86a"), looks := false }, kinds := [], alts := [], laidByText := true, laidKinds := [.data, .data, .data], laidTests := true, laidLooks := .later }
def TensDividesUptoCardSaid : Prop := Claim7.holds Tryd.pinned (.plain (OpenSpec.upto tensDividesSpec)) tensDividesUptoCard

/-- THE SECOND FORM's CARD OF 'hallmarklaw01.TensRoots'. -/
def tensRootsUptoCard : Claim7 := { stood := { row := tensRootsUptoRow, standIns := [], harness := (true, "a9f9e99e4ea4b36a610301bd0adbabd6588ecf703d716950e1e80483ccc0b86a"), looks := false }, kinds := [], alts := [], laidByText := true, laidKinds := [.data, .data, .data], laidTests := true, laidLooks := .later }
def TensRootsUptoCardSaid : Prop := Claim7.holds Tryd.pinned (.plain (OpenSpec.upto tensRootsSpec)) tensRootsUptoCard
end Rows
end Go.Proofs.YtgnaeddpdomgkabDoor
