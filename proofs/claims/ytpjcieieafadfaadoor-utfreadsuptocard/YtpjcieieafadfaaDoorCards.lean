/-
  DERIVED. GIVEN WITH THE SEED: THE CARDS: each row of YtpjcieieafadfaaDoorRows.lean that lists a variable, with what it lists TIED to the program's text (the seventh form; the later family's looks); each row that meets fmt, with fmt's text TOLD by the authors' own Lean function (tested against real Go, not proved from fmt's source: count such statements apart). THE CARD IS WHAT COUNTS. Prove the row's statement (the work); the ties are given (YtpjcieieafadfaaDoorTie.lean); close each card by the builder's one call (the guide's Derived/Test/ToyasCard.lean, 'card_holds'). Laid BY PROGRAM, IN A SANDBOX (cutbox-door.mjs). By AI agents, Wed Nov 11 2026. No macro, syntax, notation, axiom, sorry.
-/
import Derived.Test.YtpjcieieafadfaaDoorRows
import GoSem.ClaimSeven
namespace Go.Proofs.YtpjcieieafadfaaDoor
namespace Rows

/-- THE TIED CARD OF 'hallmarklaw02.UtfReads'. -/
def utfReadsCard : Claim7 := { stood := { row := utfReadsRow, standIns := [], harness := (true, "fa46f22acca87f103557521ed37250b50812973adc3dfb1c4709f4473d9f13f1"), looks := true }, kinds := [], alts := [], laidByText := true, laidKinds := [.data, .data, .data, .sentinel, .sentinel], laidTests := true, laidLooks := .later }
def UtfReadsCardSaid : Prop := Claim7.holds Tryd.pinned (.plain (OpenSpec.ofChange utfReadsSpec)) utfReadsCard

/-- THE TIED CARD OF 'hallmarklaw02.UtfFresh'. -/
def utfFreshCard : Claim7 := { stood := { row := utfFreshRow, standIns := [], harness := (true, "fa46f22acca87f103557521ed37250b50812973adc3dfb1c4709f4473d9f13f1"), looks := true }, kinds := [], alts := [], laidByText := true, laidKinds := [.data, .data, .data, .sentinel, .sentinel], laidTests := true, laidLooks := .later }
def UtfFreshCardSaid : Prop := Claim7.holds Tryd.pinned (.plain (OpenSpec.ofChange utfFreshSpec)) utfFreshCard

/-- THE SECOND FORM's CARD OF 'hallmarklaw02.UtfReads'. -/
def utfReadsUptoCard : Claim7 := { stood := { row := utfReadsUptoRow, standIns := [], harness := (true, "fa46f22acca87f103557521ed37250b50812973adc3dfb1c4709f4473d9f13f1"), looks := true }, kinds := [], alts := [], laidByText := true, laidKinds := [.data, .data, .data, .sentinel, .sentinel], laidTests := true, laidLooks := .later }
def UtfReadsUptoCardSaid : Prop := Claim7.holds Tryd.pinned (.plain (OpenSpec.upto utfReadsSpec)) utfReadsUptoCard

/-- THE SECOND FORM's CARD OF 'hallmarklaw02.UtfFresh'. -/
def utfFreshUptoCard : Claim7 := { stood := { row := utfFreshUptoRow, standIns := [], harness := (true, "fa46f22acca87f103557521ed37250b50812973adc3dfb1c4709f4473d9f13f1"), looks := true }, kinds := [], alts := [], laidByText := true, laidKinds := [.data, .data, .data, .sentinel, .sentinel], laidTests := true, laidLooks := .later }
def UtfFreshUptoCardSaid : Prop := Claim7.holds Tryd.pinned (.plain (OpenSpec.upto utfFreshSpec)) utfFreshUptoCard
end Rows
end Go.Proofs.YtpjcieieafadfaaDoor
