/-
  NARROWER THAN 'FOR EVERY INPUT', by the rows' own cells (each row's printed sentence says how): WriterPlain: loops, laid · WriterLaid: loops, laid · WriterLines: loops, laid · WriterOne: loops, laid · WriterBare: loops, laid.
  DERIVED. THE GIVEN ROWS OF THIS SEAT. 5 by the template 'for every input the law returns true; each argument reads behind the call as it read before'; 0 by the template 'total and deterministic' (their statements: YtkoednenjnnjoaaDoorTotals.lean).
  GIVEN WITH THE SEED: the statements are not yours to turn. If you find one false, say at which input.
  Laid BY PROGRAM, IN A SANDBOX (cutbox-rows.mjs): the forced cells as the released guide's own fill.sh prints them over the translation 28ca9aa3d1a9360b… (all of the seat's roots in one cut). By AI agents, Wed Nov 11 2026. No macro, syntax, notation, axiom, sorry.
-/
import Derived.Test.YtkoednenjnnjoaaDoorChecked
import GoSem.Claim
import GoSem.ClaimJoined
import GoSem.ClaimMapViews
import Derived.JoinedTies
import Derived.KernelRfl
namespace Go.Proofs.YtkoednenjnnjoaaDoor
/- THE CELL 'sum', in the pinned program and in every row, IS THE sha256 OF THE DUMP (.gsa) THAT YtkoednenjnnjoaaDoorProg.lean LOADS. Nothing in Lean hashes anything: it is a label: what it is worth is what the hold of that sum in a sandbox is worth. -/
noncomputable def Tryd.pinned : Pinned := { name := "ytkoednenjnnjoaadoor", sum := "28ca9aa3d1a9360b86b2734e3b291d887634955aa68878728cdeaa1926736954", checked := Tryd.checked }
namespace Rows
def none {H : Type} : Left H := { results := [], args := [] }

/- WHAT THE LISTED PACKAGE-LEVEL VARIABLES READ AS WHEN THE CALL BEGINS. Each datum BY PROGRAM (the guide's laid-datum.mjs) off the statement by which the dump's own 'gosem.cut.vars' lays the variable. In a bare row this is a premise. The card (YtkoednenjnnjoaaDoorCards.lean) ties it to the program's text. -/
def laid_hallmark_writer_words {H : Type} : DataW H := .agg [.lit (.string [110, 117, 108, 108]), .lit (.string [102, 97, 108, 115, 101]), .lit (.string [116, 114, 117, 101])]

/-- 'hallmarklaw06.WriterPlain': WHATEVER THE INPUT: true; the input reads as it did. -/
def writerPlainSpec : ChangeSpec := { name := "writerPlain", fn := fun _ => fun
  | [d] => { results := [.lit (.bool true)], args := [d] }
  | _ => none }
def writerPlainRow : OpenClaim := { program := "ytkoednenjnnjoaadoor", sum := "28ca9aa3d1a9360b86b2734e3b291d887634955aa68878728cdeaa1926736954", func := "hallmark/hallmarklaw06.WriterPlain", spec := "writerPlain", inPlace := ["internal/abi.NoEscape", "internal/bytealg.IndexByteString", "internal/bytealg.IndexString", "internal/bytealg.MakeNoZero"], unfollowed := true, recurses := true, named := ["hallmark/writer.words", "internal/bytealg.MaxLen"], loops := true, apart := false, laid := [("hallmark/writer.words", laid_hallmark_writer_words)] }
def WriterPlainSaid : Prop := writerPlainRow.holds Tryd.pinned (OpenSpec.ofChange writerPlainSpec)

/-- ITS FALSE NEIGHBOUR: 'it returns false'. Refute it at one input. -/
def writerPlainWrong : ChangeSpec := { name := "writerPlain", fn := fun _ => fun
  | [d] => { results := [.lit (.bool false)], args := [d] }
  | _ => none }
def WriterPlainWrongFalsely : Prop := writerPlainRow.holds Tryd.pinned (OpenSpec.ofChange writerPlainWrong)

/-- 'hallmarklaw06.WriterLaid': WHATEVER THE INPUT: true; the input reads as it did. -/
def writerLaidSpec : ChangeSpec := { name := "writerLaid", fn := fun _ => fun
  | [d1, d2] => { results := [.lit (.bool true)], args := [d1, d2] }
  | _ => none }
def writerLaidRow : OpenClaim := { program := "ytkoednenjnnjoaadoor", sum := "28ca9aa3d1a9360b86b2734e3b291d887634955aa68878728cdeaa1926736954", func := "hallmark/hallmarklaw06.WriterLaid", spec := "writerLaid", inPlace := ["internal/abi.NoEscape", "internal/bytealg.IndexByteString", "internal/bytealg.IndexString", "internal/bytealg.MakeNoZero"], unfollowed := true, recurses := true, named := ["hallmark/writer.words", "internal/bytealg.MaxLen"], loops := true, apart := false, laid := [("hallmark/writer.words", laid_hallmark_writer_words)] }
def WriterLaidSaid : Prop := writerLaidRow.holds Tryd.pinned (OpenSpec.ofChange writerLaidSpec)

/-- ITS FALSE NEIGHBOUR: 'it returns false'. Refute it at one input. -/
def writerLaidWrong : ChangeSpec := { name := "writerLaid", fn := fun _ => fun
  | [d1, d2] => { results := [.lit (.bool false)], args := [d1, d2] }
  | _ => none }
def WriterLaidWrongFalsely : Prop := writerLaidRow.holds Tryd.pinned (OpenSpec.ofChange writerLaidWrong)

/-- 'hallmarklaw06.WriterLines': WHATEVER THE INPUT: true; the input reads as it did. -/
def writerLinesSpec : ChangeSpec := { name := "writerLines", fn := fun _ => fun
  | [d] => { results := [.lit (.bool true)], args := [d] }
  | _ => none }
def writerLinesRow : OpenClaim := { program := "ytkoednenjnnjoaadoor", sum := "28ca9aa3d1a9360b86b2734e3b291d887634955aa68878728cdeaa1926736954", func := "hallmark/hallmarklaw06.WriterLines", spec := "writerLines", inPlace := ["internal/abi.NoEscape", "internal/bytealg.IndexByteString", "internal/bytealg.IndexString", "internal/bytealg.MakeNoZero"], unfollowed := true, recurses := true, named := ["hallmark/writer.words", "internal/bytealg.MaxLen"], loops := true, apart := false, laid := [("hallmark/writer.words", laid_hallmark_writer_words)] }
def WriterLinesSaid : Prop := writerLinesRow.holds Tryd.pinned (OpenSpec.ofChange writerLinesSpec)

/-- ITS FALSE NEIGHBOUR: 'it returns false'. Refute it at one input. -/
def writerLinesWrong : ChangeSpec := { name := "writerLines", fn := fun _ => fun
  | [d] => { results := [.lit (.bool false)], args := [d] }
  | _ => none }
def WriterLinesWrongFalsely : Prop := writerLinesRow.holds Tryd.pinned (OpenSpec.ofChange writerLinesWrong)

/-- 'hallmarklaw06.WriterOne': WHATEVER THE INPUT: true; the input reads as it did. -/
def writerOneSpec : ChangeSpec := { name := "writerOne", fn := fun _ => fun
  | [d1, d2, d3] => { results := [.lit (.bool true)], args := [d1, d2, d3] }
  | _ => none }
def writerOneRow : OpenClaim := { program := "ytkoednenjnnjoaadoor", sum := "28ca9aa3d1a9360b86b2734e3b291d887634955aa68878728cdeaa1926736954", func := "hallmark/hallmarklaw06.WriterOne", spec := "writerOne", inPlace := ["internal/abi.NoEscape", "internal/bytealg.IndexByteString", "internal/bytealg.IndexString", "internal/bytealg.MakeNoZero"], unfollowed := true, recurses := true, named := ["hallmark/writer.words", "internal/bytealg.MaxLen"], loops := true, apart := false, laid := [("hallmark/writer.words", laid_hallmark_writer_words)] }
def WriterOneSaid : Prop := writerOneRow.holds Tryd.pinned (OpenSpec.ofChange writerOneSpec)

/-- ITS FALSE NEIGHBOUR: 'it returns false'. Refute it at one input. -/
def writerOneWrong : ChangeSpec := { name := "writerOne", fn := fun _ => fun
  | [d1, d2, d3] => { results := [.lit (.bool false)], args := [d1, d2, d3] }
  | _ => none }
def WriterOneWrongFalsely : Prop := writerOneRow.holds Tryd.pinned (OpenSpec.ofChange writerOneWrong)

/-- 'hallmarklaw06.WriterBare': WHATEVER THE INPUT: true; the input reads as it did. -/
def writerBareSpec : ChangeSpec := { name := "writerBare", fn := fun _ => fun
  | [d1, d2] => { results := [.lit (.bool true)], args := [d1, d2] }
  | _ => none }
def writerBareRow : OpenClaim := { program := "ytkoednenjnnjoaadoor", sum := "28ca9aa3d1a9360b86b2734e3b291d887634955aa68878728cdeaa1926736954", func := "hallmark/hallmarklaw06.WriterBare", spec := "writerBare", inPlace := ["internal/abi.NoEscape", "internal/bytealg.IndexByteString", "internal/bytealg.IndexString", "internal/bytealg.MakeNoZero"], unfollowed := true, recurses := true, named := ["hallmark/writer.words", "internal/bytealg.MaxLen"], loops := true, apart := false, laid := [("hallmark/writer.words", laid_hallmark_writer_words)] }
def WriterBareSaid : Prop := writerBareRow.holds Tryd.pinned (OpenSpec.ofChange writerBareSpec)

/-- ITS FALSE NEIGHBOUR: 'it returns false'. Refute it at one input. -/
def writerBareWrong : ChangeSpec := { name := "writerBare", fn := fun _ => fun
  | [d1, d2] => { results := [.lit (.bool false)], args := [d1, d2] }
  | _ => none }
def WriterBareWrongFalsely : Prop := writerBareRow.holds Tryd.pinned (OpenSpec.ofChange writerBareWrong)

/- THE SECOND FORM. 'bulk': how many values and letters a reading holds, each counted each time it is reached (what is shared counts as often as it is met; a slice's spare places count too). A statement '..UptoSaid' is the law's where the arguments, and the package variables that the reading takes, are together of bulk at most 1048576: NARROWER than '..Said'. Prove '..Said' where nothing that the law and all that it calls make is longer than what came in: it says more and counts as full. Else prove '..UptoSaid'. A law counts once. -/
mutual
def uptoBulk {H : Type} : DataW H → Nat
  | .lit (.string bytes) => bytes.length + 1
  | .lit _ => 1
  | .nil => 1
  | .ptr d => uptoBulk d + 1
  | .slice elems spare => uptoBulkAll elems + uptoBulkAll spare + 1
  | .agg parts => uptoBulkAll parts + 1
  | .iface _ d => uptoBulk d + 1
  | .map entries => uptoBulkEntries entries + 1
  | .held _ => 1
def uptoBulkAll {H : Type} : List (DataW H) → Nat
  | [] => 0
  | d :: r => uptoBulk d + uptoBulkAll r
def uptoBulkEntries {H : Type} : List (Lit × DataW H) → Nat
  | [] => 0
  | x :: r => uptoBulkEntry x + uptoBulkEntries r
def uptoBulkEntry {H : Type} : Lit × DataW H → Nat
  | (.string bytes, d) => bytes.length + uptoBulk d + 1
  | (_, d) => uptoBulk d + 1
 end
def uptoSmall : (H : Type) → List (DataW H) → Bool := fun _ ds => decide (uptoBulkAll ds ≤ 1048576)
def OpenSpec.upto (s : _root_.Go.ChangeSpec) : _root_.Go.OpenSpec := { _root_.Go.OpenSpec.ofChange s with cond := some uptoSmall }

/-- 'hallmarklaw06.WriterPlain', WHERE WHAT IT READS IS OF BULK AT MOST 1048576: true; the input reads as it did. -/
def writerPlainUptoRow : OpenClaim := { program := "ytkoednenjnnjoaadoor", sum := "28ca9aa3d1a9360b86b2734e3b291d887634955aa68878728cdeaa1926736954", func := "hallmark/hallmarklaw06.WriterPlain", spec := "writerPlain", inPlace := ["internal/abi.NoEscape", "internal/bytealg.IndexByteString", "internal/bytealg.IndexString", "internal/bytealg.MakeNoZero"], unfollowed := true, recurses := true, named := ["hallmark/writer.words", "internal/bytealg.MaxLen"], loops := true, apart := false, laid := [("hallmark/writer.words", laid_hallmark_writer_words)], narrowed := true }
def WriterPlainUptoSaid : Prop := writerPlainUptoRow.holds Tryd.pinned (OpenSpec.upto writerPlainSpec)

/-- 'hallmarklaw06.WriterLaid', WHERE WHAT IT READS IS OF BULK AT MOST 1048576: true; the input reads as it did. -/
def writerLaidUptoRow : OpenClaim := { program := "ytkoednenjnnjoaadoor", sum := "28ca9aa3d1a9360b86b2734e3b291d887634955aa68878728cdeaa1926736954", func := "hallmark/hallmarklaw06.WriterLaid", spec := "writerLaid", inPlace := ["internal/abi.NoEscape", "internal/bytealg.IndexByteString", "internal/bytealg.IndexString", "internal/bytealg.MakeNoZero"], unfollowed := true, recurses := true, named := ["hallmark/writer.words", "internal/bytealg.MaxLen"], loops := true, apart := false, laid := [("hallmark/writer.words", laid_hallmark_writer_words)], narrowed := true }
def WriterLaidUptoSaid : Prop := writerLaidUptoRow.holds Tryd.pinned (OpenSpec.upto writerLaidSpec)

/-- 'hallmarklaw06.WriterLines', WHERE WHAT IT READS IS OF BULK AT MOST 1048576: true; the input reads as it did. -/
def writerLinesUptoRow : OpenClaim := { program := "ytkoednenjnnjoaadoor", sum := "28ca9aa3d1a9360b86b2734e3b291d887634955aa68878728cdeaa1926736954", func := "hallmark/hallmarklaw06.WriterLines", spec := "writerLines", inPlace := ["internal/abi.NoEscape", "internal/bytealg.IndexByteString", "internal/bytealg.IndexString", "internal/bytealg.MakeNoZero"], unfollowed := true, recurses := true, named := ["hallmark/writer.words", "internal/bytealg.MaxLen"], loops := true, apart := false, laid := [("hallmark/writer.words", laid_hallmark_writer_words)], narrowed := true }
def WriterLinesUptoSaid : Prop := writerLinesUptoRow.holds Tryd.pinned (OpenSpec.upto writerLinesSpec)

/-- 'hallmarklaw06.WriterOne', WHERE WHAT IT READS IS OF BULK AT MOST 1048576: true; the input reads as it did. -/
def writerOneUptoRow : OpenClaim := { program := "ytkoednenjnnjoaadoor", sum := "28ca9aa3d1a9360b86b2734e3b291d887634955aa68878728cdeaa1926736954", func := "hallmark/hallmarklaw06.WriterOne", spec := "writerOne", inPlace := ["internal/abi.NoEscape", "internal/bytealg.IndexByteString", "internal/bytealg.IndexString", "internal/bytealg.MakeNoZero"], unfollowed := true, recurses := true, named := ["hallmark/writer.words", "internal/bytealg.MaxLen"], loops := true, apart := false, laid := [("hallmark/writer.words", laid_hallmark_writer_words)], narrowed := true }
def WriterOneUptoSaid : Prop := writerOneUptoRow.holds Tryd.pinned (OpenSpec.upto writerOneSpec)

/-- 'hallmarklaw06.WriterBare', WHERE WHAT IT READS IS OF BULK AT MOST 1048576: true; the input reads as it did. -/
def writerBareUptoRow : OpenClaim := { program := "ytkoednenjnnjoaadoor", sum := "28ca9aa3d1a9360b86b2734e3b291d887634955aa68878728cdeaa1926736954", func := "hallmark/hallmarklaw06.WriterBare", spec := "writerBare", inPlace := ["internal/abi.NoEscape", "internal/bytealg.IndexByteString", "internal/bytealg.IndexString", "internal/bytealg.MakeNoZero"], unfollowed := true, recurses := true, named := ["hallmark/writer.words", "internal/bytealg.MaxLen"], loops := true, apart := false, laid := [("hallmark/writer.words", laid_hallmark_writer_words)], narrowed := true }
def WriterBareUptoSaid : Prop := writerBareUptoRow.holds Tryd.pinned (OpenSpec.upto writerBareSpec)

end Rows
end Go.Proofs.YtkoednenjnnjoaaDoor
