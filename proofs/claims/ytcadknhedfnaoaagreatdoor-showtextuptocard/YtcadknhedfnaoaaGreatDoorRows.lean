/-
  NARROWER THAN 'FOR EVERY INPUT', by the rows' own cells (each row's printed sentence says how): ShowText: loops, laid · ShowKey: laid.
  DERIVED. THE GIVEN ROWS OF THIS SEAT. 2 by the template 'for every input the law returns true; each argument reads behind the call as it read before'; 0 by the template 'total and deterministic' (their statements: YtcadknhedfnaoaaGreatDoorTotals.lean).
  GIVEN WITH THE SEED: the statements are not yours to turn. If you find one false, say at which input.
  Laid BY PROGRAM, IN A SANDBOX (cutbox-rows.mjs): the forced cells as the released guide's own fill.sh prints them over the translation 59ebc75a8cc2768c… (all of the seat's roots in one cut). By AI agents, Wed Nov 11 2026. No macro, syntax, notation, axiom, sorry.
-/
import Derived.Test.YtcadknhedfnaoaaGreatDoorChecked
import GoSem.Claim
import GoSem.ClaimJoined
import GoSem.ClaimMapViews
import Derived.JoinedTies
import Derived.KernelRfl
namespace Go.Proofs.YtcadknhedfnaoaaGreatDoor
/- THE CELL 'sum', in the pinned program and in every row, IS THE sha256 OF THE DUMP (.gsa) THAT YtcadknhedfnaoaaGreatDoorProg.lean LOADS. Nothing in Lean hashes anything: it is a label: what it is worth is what the hold of that sum in a sandbox is worth. -/
noncomputable def Tryz.pinned : Pinned := { name := "ytcadknhedfnaoaagreatdoor", sum := "59ebc75a8cc2768cf50c00bd5dcb8959817b3baf647b4e30ea00d4bedb7dd328", checked := Tryz.checked }
namespace Rows
def none {H : Type} : Left H := { results := [], args := [] }

/- WHAT THE LISTED PACKAGE-LEVEL VARIABLES READ AS WHEN THE CALL BEGINS. Each datum BY PROGRAM (the guide's laid-datum.mjs) off the statement by which the dump's own 'gosem.cut.vars' lays the variable. In a bare row this is a premise. The card (YtcadknhedfnaoaaGreatDoorCards.lean) ties it to the program's text. -/
def laid_hallmark_show_operations {H : Type} : DataW H := .agg [.agg [.lit (.string []), .lit (.int .i64 0), .lit (.int .i64 0), .lit (.int .i64 0)], .agg [.lit (.string []), .lit (.int .i64 0), .lit (.int .i64 0), .lit (.int .i64 0)], .agg [.lit (.string []), .lit (.int .i64 0), .lit (.int .i64 0), .lit (.int .i64 0)], .agg [.lit (.string []), .lit (.int .i64 0), .lit (.int .i64 0), .lit (.int .i64 0)], .agg [.lit (.string []), .lit (.int .i64 0), .lit (.int .i64 0), .lit (.int .i64 0)], .agg [.lit (.string []), .lit (.int .i64 0), .lit (.int .i64 0), .lit (.int .i64 0)], .agg [.lit (.string []), .lit (.int .i64 0), .lit (.int .i64 0), .lit (.int .i64 0)], .agg [.lit (.string []), .lit (.int .i64 0), .lit (.int .i64 0), .lit (.int .i64 0)], .agg [.lit (.string []), .lit (.int .i64 0), .lit (.int .i64 0), .lit (.int .i64 0)], .agg [.lit (.string []), .lit (.int .i64 0), .lit (.int .i64 0), .lit (.int .i64 0)], .agg [.lit (.string []), .lit (.int .i64 0), .lit (.int .i64 0), .lit (.int .i64 0)], .agg [.lit (.string []), .lit (.int .i64 0), .lit (.int .i64 0), .lit (.int .i64 0)], .agg [.lit (.string [32, 124, 32]), .lit (.int .i64 0), .lit (.int .i64 1), .lit (.int .i64 0)], .agg [.lit (.string [44, 32]), .lit (.int .i64 1), .lit (.int .i64 1), .lit (.int .i64 2)], .agg [.lit (.string [32, 43, 32]), .lit (.int .i64 7), .lit (.int .i64 7), .lit (.int .i64 8)], .agg [.lit (.string [32, 45, 32]), .lit (.int .i64 7), .lit (.int .i64 7), .lit (.int .i64 8)], .agg [.lit (.string [32, 42, 32]), .lit (.int .i64 8), .lit (.int .i64 8), .lit (.int .i64 9)], .agg [.lit (.string [32, 47, 32]), .lit (.int .i64 8), .lit (.int .i64 8), .lit (.int .i64 9)], .agg [.lit (.string [32, 37, 32]), .lit (.int .i64 8), .lit (.int .i64 8), .lit (.int .i64 9)], .agg [.lit (.string [32, 61, 61, 32]), .lit (.int .i64 6), .lit (.int .i64 7), .lit (.int .i64 7)], .agg [.lit (.string [32, 33, 61, 32]), .lit (.int .i64 6), .lit (.int .i64 7), .lit (.int .i64 7)], .agg [.lit (.string [32, 60, 32]), .lit (.int .i64 6), .lit (.int .i64 7), .lit (.int .i64 7)], .agg [.lit (.string [32, 60, 61, 32]), .lit (.int .i64 6), .lit (.int .i64 7), .lit (.int .i64 7)], .agg [.lit (.string [32, 62, 32]), .lit (.int .i64 6), .lit (.int .i64 7), .lit (.int .i64 7)], .agg [.lit (.string [32, 62, 61, 32]), .lit (.int .i64 6), .lit (.int .i64 7), .lit (.int .i64 7)], .agg [.lit (.string [32, 97, 110, 100, 32]), .lit (.int .i64 5), .lit (.int .i64 5), .lit (.int .i64 6)], .agg [.lit (.string [32, 111, 114, 32]), .lit (.int .i64 4), .lit (.int .i64 4), .lit (.int .i64 5)], .agg [.lit (.string [32, 47, 47, 32]), .lit (.int .i64 3), .lit (.int .i64 4), .lit (.int .i64 3)], .agg [.lit (.string []), .lit (.int .i64 0), .lit (.int .i64 0), .lit (.int .i64 0)], .agg [.lit (.string []), .lit (.int .i64 0), .lit (.int .i64 0), .lit (.int .i64 0)], .agg [.lit (.string []), .lit (.int .i64 0), .lit (.int .i64 0), .lit (.int .i64 0)], .agg [.lit (.string []), .lit (.int .i64 0), .lit (.int .i64 0), .lit (.int .i64 0)], .agg [.lit (.string []), .lit (.int .i64 0), .lit (.int .i64 0), .lit (.int .i64 0)], .agg [.lit (.string []), .lit (.int .i64 0), .lit (.int .i64 0), .lit (.int .i64 0)], .agg [.lit (.string []), .lit (.int .i64 0), .lit (.int .i64 0), .lit (.int .i64 0)], .agg [.lit (.string []), .lit (.int .i64 0), .lit (.int .i64 0), .lit (.int .i64 0)], .agg [.lit (.string [32, 61, 32]), .lit (.int .i64 2), .lit (.int .i64 3), .lit (.int .i64 3)], .agg [.lit (.string [32, 124, 61, 32]), .lit (.int .i64 2), .lit (.int .i64 3), .lit (.int .i64 3)], .agg [.lit (.string [32, 43, 61, 32]), .lit (.int .i64 2), .lit (.int .i64 3), .lit (.int .i64 3)], .agg [.lit (.string [32, 45, 61, 32]), .lit (.int .i64 2), .lit (.int .i64 3), .lit (.int .i64 3)], .agg [.lit (.string [32, 42, 61, 32]), .lit (.int .i64 2), .lit (.int .i64 3), .lit (.int .i64 3)], .agg [.lit (.string [32, 47, 61, 32]), .lit (.int .i64 2), .lit (.int .i64 3), .lit (.int .i64 3)], .agg [.lit (.string [32, 37, 61, 32]), .lit (.int .i64 2), .lit (.int .i64 3), .lit (.int .i64 3)], .agg [.lit (.string [32, 47, 47, 61, 32]), .lit (.int .i64 2), .lit (.int .i64 3), .lit (.int .i64 3)]]

/-- 'hallmarklaw18.ShowText': WHATEVER THE INPUT: true; the input reads as it did. -/
def showTextSpec : ChangeSpec := { name := "showText", fn := fun _ => fun
  | [d] => { results := [.lit (.bool true)], args := [d] }
  | _ => none }
def showTextRow : OpenClaim := { program := "ytcadknhedfnaoaagreatdoor", sum := "59ebc75a8cc2768cf50c00bd5dcb8959817b3baf647b4e30ea00d4bedb7dd328", func := "hallmark/hallmarklaw18.ShowText", spec := "showText", inPlace := ["internal/abi.NoEscape", "internal/bytealg.IndexByteString", "internal/bytealg.IndexString", "internal/bytealg.MakeNoZero"], unfollowed := true, recurses := true, named := ["hallmark/show.operations", "internal/bytealg.MaxLen"], loops := true, apart := false, laid := [("hallmark/show.operations", laid_hallmark_show_operations)] }
def ShowTextSaid : Prop := showTextRow.holds Tryz.pinned (OpenSpec.ofChange showTextSpec)

/-- ITS FALSE NEIGHBOUR: 'it returns false'. Refute it at one input. -/
def showTextWrong : ChangeSpec := { name := "showText", fn := fun _ => fun
  | [d] => { results := [.lit (.bool false)], args := [d] }
  | _ => none }
def ShowTextWrongFalsely : Prop := showTextRow.holds Tryz.pinned (OpenSpec.ofChange showTextWrong)

/-- 'hallmarklaw18.ShowKey': WHATEVER THE INPUT: true; the input reads as it did. -/
def showKeySpec : ChangeSpec := { name := "showKey", fn := fun _ => fun
  | [d] => { results := [.lit (.bool true)], args := [d] }
  | _ => none }
def showKeyRow : OpenClaim := { program := "ytcadknhedfnaoaagreatdoor", sum := "59ebc75a8cc2768cf50c00bd5dcb8959817b3baf647b4e30ea00d4bedb7dd328", func := "hallmark/hallmarklaw18.ShowKey", spec := "showKey", inPlace := ["internal/bytealg.IndexByteString", "internal/bytealg.IndexString", "internal/abi.NoEscape", "internal/bytealg.MakeNoZero"], unfollowed := true, recurses := true, named := ["hallmark/show.operations", "internal/bytealg.MaxLen"], apart := false, laid := [("hallmark/show.operations", laid_hallmark_show_operations)] }
def ShowKeySaid : Prop := showKeyRow.holds Tryz.pinned (OpenSpec.ofChange showKeySpec)

/-- ITS FALSE NEIGHBOUR: 'it returns false'. Refute it at one input. -/
def showKeyWrong : ChangeSpec := { name := "showKey", fn := fun _ => fun
  | [d] => { results := [.lit (.bool false)], args := [d] }
  | _ => none }
def ShowKeyWrongFalsely : Prop := showKeyRow.holds Tryz.pinned (OpenSpec.ofChange showKeyWrong)

/- THE SECOND FORM. 'bulk': how many values and letters a reading holds, each counted each time it is reached (what is shared counts as often as it is met; a slice's spare places count too). A statement '..UptoSaid' is the law's where the arguments, and the package variables that the reading takes, are together of bulk at most 1048576: NARROWER than '..Said'. Prove '..Said' where nothing that the law and all that it calls make is longer than what came in: it says more and counts as full. Else prove '..UptoSaid'. A law counts once. -/
mutual
def uptoBulk {H : Type} : DataW H → Nat
  | .lit (.string bytes) => bytes.length + 1
  | .lit _ => 1
  | .nil => 1
  | .ptr d => uptoBulk d + 1
  | .slice elems spare => uptoBulkAll elems + uptoBulkAll spare + 1
  | .agg parts => uptoBulkAll parts + 1
  | .iface _ d => uptoBulk d + 1
  | .map entries => uptoBulkEntries entries + 1
  | .held _ => 1
def uptoBulkAll {H : Type} : List (DataW H) → Nat
  | [] => 0
  | d :: r => uptoBulk d + uptoBulkAll r
def uptoBulkEntries {H : Type} : List (Lit × DataW H) → Nat
  | [] => 0
  | x :: r => uptoBulkEntry x + uptoBulkEntries r
def uptoBulkEntry {H : Type} : Lit × DataW H → Nat
  | (.string bytes, d) => bytes.length + uptoBulk d + 1
  | (_, d) => uptoBulk d + 1
 end
def uptoSmall : (H : Type) → List (DataW H) → Bool := fun _ ds => decide (uptoBulkAll ds ≤ 1048576)
def OpenSpec.upto (s : _root_.Go.ChangeSpec) : _root_.Go.OpenSpec := { _root_.Go.OpenSpec.ofChange s with cond := some uptoSmall }

/-- 'hallmarklaw18.ShowText', WHERE WHAT IT READS IS OF BULK AT MOST 1048576: true; the input reads as it did. -/
def showTextUptoRow : OpenClaim := { program := "ytcadknhedfnaoaagreatdoor", sum := "59ebc75a8cc2768cf50c00bd5dcb8959817b3baf647b4e30ea00d4bedb7dd328", func := "hallmark/hallmarklaw18.ShowText", spec := "showText", inPlace := ["internal/abi.NoEscape", "internal/bytealg.IndexByteString", "internal/bytealg.IndexString", "internal/bytealg.MakeNoZero"], unfollowed := true, recurses := true, named := ["hallmark/show.operations", "internal/bytealg.MaxLen"], loops := true, apart := false, laid := [("hallmark/show.operations", laid_hallmark_show_operations)], narrowed := true }
def ShowTextUptoSaid : Prop := showTextUptoRow.holds Tryz.pinned (OpenSpec.upto showTextSpec)

/-- 'hallmarklaw18.ShowKey', WHERE WHAT IT READS IS OF BULK AT MOST 1048576: true; the input reads as it did. -/
def showKeyUptoRow : OpenClaim := { program := "ytcadknhedfnaoaagreatdoor", sum := "59ebc75a8cc2768cf50c00bd5dcb8959817b3baf647b4e30ea00d4bedb7dd328", func := "hallmark/hallmarklaw18.ShowKey", spec := "showKey", inPlace := ["internal/bytealg.IndexByteString", "internal/bytealg.IndexString", "internal/abi.NoEscape", "internal/bytealg.MakeNoZero"], unfollowed := true, recurses := true, named := ["hallmark/show.operations", "internal/bytealg.MaxLen"], apart := false, laid := [("hallmark/show.operations", laid_hallmark_show_operations)], narrowed := true }
def ShowKeyUptoSaid : Prop := showKeyUptoRow.holds Tryz.pinned (OpenSpec.upto showKeySpec)

end Rows
end Go.Proofs.YtcadknhedfnaoaaGreatDoor
