/-
  DERIVED. GIVEN WITH THE SEED: THE CARDS: each row of YtfcbeohkhljboaaDoorRows.lean that lists a variable, with what it lists TIED to the program's text (the seventh form; the later family's looks); each row that meets fmt, with fmt's text TOLD by the authors' own Lean function (tested against real Go, not proved from fmt's source: count such statements apart). THE CARD IS WHAT COUNTS. Prove the row's statement (the work); the ties are given (YtfcbeohkhljboaaDoorTie.lean); close each card by the builder's one call (the guide's Derived/Test/ToyasCard.lean, 'card_holds'). Laid BY PROGRAM, IN A SANDBOX (cutbox-door.mjs). By AI agents, Wed Nov 11 2026. No macro, syntax, notation, axiom, sorry.
-/
import Derived.Test.YtfcbeohkhljboaaDoorRows
import GoSem.ClaimSeven
namespace Go.Proofs.YtfcbeohkhljboaaDoor
namespace Rows

/-- THE TIED CARD OF 'hallmarklaw01.TensFormed'. -/
def tensFormedCard : Claim7 := { stood := { row := tensFormedRow, standIns := [], harness := (true, "fc87e87e01d620993f87e92f6654f5c60880c8cf94d131c8280382e9ff78a774"), looks := true }, kinds := [], alts := [], laidByText := true, laidKinds := [.data, .data, .data, .sentinel, .sentinel], laidTests := true, laidLooks := .later }
def TensFormedCardSaid : Prop := Claim7.holds Tryd.pinned (.plain (OpenSpec.ofChange tensFormedSpec)) tensFormedCard

/-- THE TIED CARD OF 'hallmarklaw01.TensOf'. -/
def tensOfCard : Claim7 := { stood := { row := tensOfRow, standIns := [], harness := (true, "fc87e87e01d620993f87e92f6654f5c60880c8cf94d131c8280382e9ff78a774"), looks := true }, kinds := [], alts := [], laidByText := true, laidKinds := [.data, .data, .data, .sentinel, .sentinel], laidTests := true, laidLooks := .later }
def TensOfCardSaid : Prop := Claim7.holds Tryd.pinned (.plain (OpenSpec.ofChange tensOfSpec)) tensOfCard

/-- THE TIED CARD OF 'hallmarklaw01.TensOne'. -/
def tensOneCard : Claim7 := { stood := { row := tensOneRow, standIns := [], harness := (true, "fc87e87e01d620993f87e92f6654f5c60880c8cf94d131c8280382e9ff78a774"), looks := true }, kinds := [], alts := [], laidByText := true, laidKinds := [.data, .data, .data], laidTests := true, laidLooks := .later }
def TensOneCardSaid : Prop := Claim7.holds Tryd.pinned (.plain (OpenSpec.ofChange tensOneSpec)) tensOneCard

/-- THE TIED CARD OF 'hallmarklaw01.TensTwo'. -/
def tensTwoCard : Claim7 := { stood := { row := tensTwoRow, standIns := [], harness := (true, "fc87e87e01d620993f87e92f6654f5c60880c8cf94d131c8280382e9ff78a774"), looks := true }, kinds := [], alts := [], laidByText := true, laidKinds := [.data, .data, .data], laidTests := true, laidLooks := .later }
def TensTwoCardSaid : Prop := Claim7.holds Tryd.pinned (.plain (OpenSpec.ofChange tensTwoSpec)) tensTwoCard

/-- THE TIED CARD OF 'hallmarklaw01.TensSteps'. -/
def tensStepsCard : Claim7 := { stood := { row := tensStepsRow, standIns := [], harness := (true, "fc87e87e01d620993f87e92f6654f5c60880c8cf94d131c8280382e9ff78a774"), looks := true }, kinds := [], alts := [], laidByText := true, laidKinds := [.data, .data, .data], laidTests := true, laidLooks := .later }
def TensStepsCardSaid : Prop := Claim7.holds Tryd.pinned (.plain (OpenSpec.ofChange tensStepsSpec)) tensStepsCard

/-- THE SECOND FORM's CARD OF 'hallmarklaw01.TensFormed'. -/
def tensFormedUptoCard : Claim7 := { stood := { row := tensFormedUptoRow, standIns := [], harness := (true, "fc87e87e01d620993f87e92f6654f5c60880c8cf94d131c8280382e9ff78a774"), looks := true }, kinds := [], alts := [], laidByText := true, laidKinds := [.data, .data, .data, .sentinel, .sentinel], laidTests := true, laidLooks := .later }
def TensFormedUptoCardSaid : Prop := Claim7.holds Tryd.pinned (.plain (OpenSpec.upto tensFormedSpec)) tensFormedUptoCard

/-- THE SECOND FORM's CARD OF 'hallmarklaw01.TensOf'. -/
def tensOfUptoCard : Claim7 := { stood := { row := tensOfUptoRow, standIns := [], harness := (true, "fc87e87e01d620993f87e92f6654f5c60880c8cf94d131c8280382e9ff78a774"), looks := true }, kinds := [], alts := [], laidByText := true, laidKinds := [.data, .data, .data, .sentinel, .sentinel], laidTests := true, laidLooks := .later }
def TensOfUptoCardSaid : Prop := Claim7.holds Tryd.pinned (.plain (OpenSpec.upto tensOfSpec)) tensOfUptoCard

/-- THE SECOND FORM's CARD OF 'hallmarklaw01.TensOne'. -/
def tensOneUptoCard : Claim7 := { stood := { row := tensOneUptoRow, standIns := [], harness := (true, "fc87e87e01d620993f87e92f6654f5c60880c8cf94d131c8280382e9ff78a774"), looks := true }, kinds := [], alts := [], laidByText := true, laidKinds := [.data, .data, .data], laidTests := true, laidLooks := .later }
def TensOneUptoCardSaid : Prop := Claim7.holds Tryd.pinned (.plain (OpenSpec.upto tensOneSpec)) tensOneUptoCard

/-- THE SECOND FORM's CARD OF 'hallmarklaw01.TensTwo'. -/
def tensTwoUptoCard : Claim7 := { stood := { row := tensTwoUptoRow, standIns := [], harness := (true, "fc87e87e01d620993f87e92f6654f5c60880c8cf94d131c8280382e9ff78a774"), looks := true }, kinds := [], alts := [], laidByText := true, laidKinds := [.data, .data, .data], laidTests := true, laidLooks := .later }
def TensTwoUptoCardSaid : Prop := Claim7.holds Tryd.pinned (.plain (OpenSpec.upto tensTwoSpec)) tensTwoUptoCard

/-- THE SECOND FORM's CARD OF 'hallmarklaw01.TensSteps'. -/
def tensStepsUptoCard : Claim7 := { stood := { row := tensStepsUptoRow, standIns := [], harness := (true, "fc87e87e01d620993f87e92f6654f5c60880c8cf94d131c8280382e9ff78a774"), looks := true }, kinds := [], alts := [], laidByText := true, laidKinds := [.data, .data, .data], laidTests := true, laidLooks := .later }
def TensStepsUptoCardSaid : Prop := Claim7.holds Tryd.pinned (.plain (OpenSpec.upto tensStepsSpec)) tensStepsUptoCard
end Rows
end Go.Proofs.YtfcbeohkhljboaaDoor
