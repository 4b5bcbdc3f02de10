/-
  NARROWER THAN 'FOR EVERY INPUT', by the rows' own cells (each row's printed sentence says how): ShowBack: loops, laid · ShowUnlike: loops, laid · ShowRead: laid · ShowKnown: laid · WholeFilter: laid.
  DERIVED. THE GIVEN ROWS OF THIS SEAT. 5 by the template 'for every input the law returns true; each argument reads behind the call as it read before'; 0 by the template 'total and deterministic' (their statements: YtdjleoglphgdgaaGreatDoorTotals.lean).
  GIVEN WITH THE SEED: the statements are not yours to turn. If you find one false, say at which input.
  Laid BY PROGRAM, IN A SANDBOX (cutbox-rows.mjs): the forced cells as the released guide's own fill.sh prints them over the translation 383a45ce0a70ef14… (all of the seat's roots in one cut). By AI agents, Wed Nov 11 2026. No macro, syntax, notation, axiom, sorry.
-/
import Derived.Test.YtdjleoglphgdgaaGreatDoorChecked
import GoSem.Claim
import GoSem.ClaimJoined
import GoSem.ClaimMapViews
import Derived.JoinedTies
import Derived.KernelRfl
namespace Go.Proofs.YtdjleoglphgdgaaGreatDoor
/- THE CELL 'sum', in the pinned program and in every row, IS THE sha256 OF THE DUMP (.gsa) THAT YtdjleoglphgdgaaGreatDoorProg.lean LOADS. Nothing in Lean hashes anything: it is a label: what it is worth is what the hold of that sum in a sandbox is worth. -/
noncomputable def Tryz.pinned : Pinned := { name := "ytdjleoglphgdgaagreatdoor", sum := "383a45ce0a70ef14466e5e7b655e223c4500fc9d3c88e47af78dd00d5215344d", checked := Tryz.checked }
namespace Rows
def none {H : Type} : Left H := { results := [], args := [] }

/- WHAT THE LISTED PACKAGE-LEVEL VARIABLES READ AS WHEN THE CALL BEGINS. Each datum BY PROGRAM (the guide's laid-datum.mjs) off the statement by which the dump's own 'gosem.cut.vars' lays the variable. In a bare row this is a premise. The card (YtdjleoglphgdgaaGreatDoorCards.lean) ties it to the program's text. -/
def laid_math_bits_deBruijn32tab {H : Type} : DataW H := .agg [.lit (.int .u8 0), .lit (.int .u8 1), .lit (.int .u8 28), .lit (.int .u8 2), .lit (.int .u8 29), .lit (.int .u8 14), .lit (.int .u8 24), .lit (.int .u8 3), .lit (.int .u8 30), .lit (.int .u8 22), .lit (.int .u8 20), .lit (.int .u8 15), .lit (.int .u8 25), .lit (.int .u8 17), .lit (.int .u8 4), .lit (.int .u8 8), .lit (.int .u8 31), .lit (.int .u8 27), .lit (.int .u8 13), .lit (.int .u8 23), .lit (.int .u8 21), .lit (.int .u8 19), .lit (.int .u8 16), .lit (.int .u8 7), .lit (.int .u8 26), .lit (.int .u8 12), .lit (.int .u8 18), .lit (.int .u8 6), .lit (.int .u8 11), .lit (.int .u8 5), .lit (.int .u8 10), .lit (.int .u8 9)]
def laid_math_bits_deBruijn64tab {H : Type} : DataW H := .agg [.lit (.int .u8 0), .lit (.int .u8 1), .lit (.int .u8 56), .lit (.int .u8 2), .lit (.int .u8 57), .lit (.int .u8 49), .lit (.int .u8 28), .lit (.int .u8 3), .lit (.int .u8 61), .lit (.int .u8 58), .lit (.int .u8 42), .lit (.int .u8 50), .lit (.int .u8 38), .lit (.int .u8 29), .lit (.int .u8 17), .lit (.int .u8 4), .lit (.int .u8 62), .lit (.int .u8 47), .lit (.int .u8 59), .lit (.int .u8 36), .lit (.int .u8 45), .lit (.int .u8 43), .lit (.int .u8 51), .lit (.int .u8 22), .lit (.int .u8 53), .lit (.int .u8 39), .lit (.int .u8 33), .lit (.int .u8 30), .lit (.int .u8 24), .lit (.int .u8 18), .lit (.int .u8 12), .lit (.int .u8 5), .lit (.int .u8 63), .lit (.int .u8 55), .lit (.int .u8 48), .lit (.int .u8 27), .lit (.int .u8 60), .lit (.int .u8 41), .lit (.int .u8 37), .lit (.int .u8 16), .lit (.int .u8 46), .lit (.int .u8 35), .lit (.int .u8 44), .lit (.int .u8 21), .lit (.int .u8 52), .lit (.int .u8 32), .lit (.int .u8 23), .lit (.int .u8 11), .lit (.int .u8 54), .lit (.int .u8 26), .lit (.int .u8 40), .lit (.int .u8 15), .lit (.int .u8 34), .lit (.int .u8 20), .lit (.int .u8 31), .lit (.int .u8 10), .lit (.int .u8 25), .lit (.int .u8 14), .lit (.int .u8 19), .lit (.int .u8 9), .lit (.int .u8 13), .lit (.int .u8 8), .lit (.int .u8 7), .lit (.int .u8 6)]
def laid_internal_strconv_uint64pow10 {H : Type} : DataW H := .agg [.lit (.int .u64 1), .lit (.int .u64 10), .lit (.int .u64 100), .lit (.int .u64 1000), .lit (.int .u64 10000), .lit (.int .u64 100000), .lit (.int .u64 1000000), .lit (.int .u64 10000000), .lit (.int .u64 100000000), .lit (.int .u64 1000000000), .lit (.int .u64 10000000000), .lit (.int .u64 100000000000), .lit (.int .u64 1000000000000), .lit (.int .u64 10000000000000), .lit (.int .u64 100000000000000), .lit (.int .u64 1000000000000000), .lit (.int .u64 10000000000000000), .lit (.int .u64 100000000000000000), .lit (.int .u64 1000000000000000000), .lit (.int .u64 10000000000000000000)]
def laid_strconv_ErrRange {H : Type} : DataW H := .iface "*errors.errorString" (.ptr (.agg [.lit (.string [118, 97, 108, 117, 101, 32, 111, 117, 116, 32, 111, 102, 32, 114, 97, 110, 103, 101])]))
def laid_strconv_ErrSyntax {H : Type} : DataW H := .iface "*errors.errorString" (.ptr (.agg [.lit (.string [105, 110, 118, 97, 108, 105, 100, 32, 115, 121, 110, 116, 97, 120])]))
def laid_hallmark_syntax_operations {H : Type} : DataW H := .agg [.agg [.lit (.string [44]), .lit (.int .i64 13), .lit (.int .i64 1), .lit (.int .i64 0)], .agg [.lit (.string [61]), .lit (.int .i64 36), .lit (.int .i64 2), .lit (.int .i64 2)], .agg [.lit (.string [124, 61]), .lit (.int .i64 37), .lit (.int .i64 2), .lit (.int .i64 2)], .agg [.lit (.string [43, 61]), .lit (.int .i64 38), .lit (.int .i64 2), .lit (.int .i64 2)], .agg [.lit (.string [45, 61]), .lit (.int .i64 39), .lit (.int .i64 2), .lit (.int .i64 2)], .agg [.lit (.string [42, 61]), .lit (.int .i64 40), .lit (.int .i64 2), .lit (.int .i64 2)], .agg [.lit (.string [47, 61]), .lit (.int .i64 41), .lit (.int .i64 2), .lit (.int .i64 2)], .agg [.lit (.string [37, 61]), .lit (.int .i64 42), .lit (.int .i64 2), .lit (.int .i64 2)], .agg [.lit (.string [47, 47, 61]), .lit (.int .i64 43), .lit (.int .i64 2), .lit (.int .i64 2)], .agg [.lit (.string [47, 47]), .lit (.int .i64 27), .lit (.int .i64 3), .lit (.int .i64 1)], .agg [.lit (.string [111, 114]), .lit (.int .i64 26), .lit (.int .i64 4), .lit (.int .i64 0)], .agg [.lit (.string [97, 110, 100]), .lit (.int .i64 25), .lit (.int .i64 5), .lit (.int .i64 0)], .agg [.lit (.string [61, 61]), .lit (.int .i64 19), .lit (.int .i64 6), .lit (.int .i64 2)], .agg [.lit (.string [33, 61]), .lit (.int .i64 20), .lit (.int .i64 6), .lit (.int .i64 2)], .agg [.lit (.string [60]), .lit (.int .i64 21), .lit (.int .i64 6), .lit (.int .i64 2)], .agg [.lit (.string [60, 61]), .lit (.int .i64 22), .lit (.int .i64 6), .lit (.int .i64 2)], .agg [.lit (.string [62]), .lit (.int .i64 23), .lit (.int .i64 6), .lit (.int .i64 2)], .agg [.lit (.string [62, 61]), .lit (.int .i64 24), .lit (.int .i64 6), .lit (.int .i64 2)], .agg [.lit (.string [43]), .lit (.int .i64 14), .lit (.int .i64 7), .lit (.int .i64 0)], .agg [.lit (.string [45]), .lit (.int .i64 15), .lit (.int .i64 7), .lit (.int .i64 0)], .agg [.lit (.string [42]), .lit (.int .i64 16), .lit (.int .i64 8), .lit (.int .i64 0)], .agg [.lit (.string [47]), .lit (.int .i64 17), .lit (.int .i64 8), .lit (.int .i64 0)], .agg [.lit (.string [37]), .lit (.int .i64 18), .lit (.int .i64 8), .lit (.int .i64 0)]]
def laid_hallmark_show_operations {H : Type} : DataW H := .agg [.agg [.lit (.string []), .lit (.int .i64 0), .lit (.int .i64 0), .lit (.int .i64 0)], .agg [.lit (.string []), .lit (.int .i64 0), .lit (.int .i64 0), .lit (.int .i64 0)], .agg [.lit (.string []), .lit (.int .i64 0), .lit (.int .i64 0), .lit (.int .i64 0)], .agg [.lit (.string []), .lit (.int .i64 0), .lit (.int .i64 0), .lit (.int .i64 0)], .agg [.lit (.string []), .lit (.int .i64 0), .lit (.int .i64 0), .lit (.int .i64 0)], .agg [.lit (.string []), .lit (.int .i64 0), .lit (.int .i64 0), .lit (.int .i64 0)], .agg [.lit (.string []), .lit (.int .i64 0), .lit (.int .i64 0), .lit (.int .i64 0)], .agg [.lit (.string []), .lit (.int .i64 0), .lit (.int .i64 0), .lit (.int .i64 0)], .agg [.lit (.string []), .lit (.int .i64 0), .lit (.int .i64 0), .lit (.int .i64 0)], .agg [.lit (.string []), .lit (.int .i64 0), .lit (.int .i64 0), .lit (.int .i64 0)], .agg [.lit (.string []), .lit (.int .i64 0), .lit (.int .i64 0), .lit (.int .i64 0)], .agg [.lit (.string []), .lit (.int .i64 0), .lit (.int .i64 0), .lit (.int .i64 0)], .agg [.lit (.string [32, 124, 32]), .lit (.int .i64 0), .lit (.int .i64 1), .lit (.int .i64 0)], .agg [.lit (.string [44, 32]), .lit (.int .i64 1), .lit (.int .i64 1), .lit (.int .i64 2)], .agg [.lit (.string [32, 43, 32]), .lit (.int .i64 7), .lit (.int .i64 7), .lit (.int .i64 8)], .agg [.lit (.string [32, 45, 32]), .lit (.int .i64 7), .lit (.int .i64 7), .lit (.int .i64 8)], .agg [.lit (.string [32, 42, 32]), .lit (.int .i64 8), .lit (.int .i64 8), .lit (.int .i64 9)], .agg [.lit (.string [32, 47, 32]), .lit (.int .i64 8), .lit (.int .i64 8), .lit (.int .i64 9)], .agg [.lit (.string [32, 37, 32]), .lit (.int .i64 8), .lit (.int .i64 8), .lit (.int .i64 9)], .agg [.lit (.string [32, 61, 61, 32]), .lit (.int .i64 6), .lit (.int .i64 7), .lit (.int .i64 7)], .agg [.lit (.string [32, 33, 61, 32]), .lit (.int .i64 6), .lit (.int .i64 7), .lit (.int .i64 7)], .agg [.lit (.string [32, 60, 32]), .lit (.int .i64 6), .lit (.int .i64 7), .lit (.int .i64 7)], .agg [.lit (.string [32, 60, 61, 32]), .lit (.int .i64 6), .lit (.int .i64 7), .lit (.int .i64 7)], .agg [.lit (.string [32, 62, 32]), .lit (.int .i64 6), .lit (.int .i64 7), .lit (.int .i64 7)], .agg [.lit (.string [32, 62, 61, 32]), .lit (.int .i64 6), .lit (.int .i64 7), .lit (.int .i64 7)], .agg [.lit (.string [32, 97, 110, 100, 32]), .lit (.int .i64 5), .lit (.int .i64 5), .lit (.int .i64 6)], .agg [.lit (.string [32, 111, 114, 32]), .lit (.int .i64 4), .lit (.int .i64 4), .lit (.int .i64 5)], .agg [.lit (.string [32, 47, 47, 32]), .lit (.int .i64 3), .lit (.int .i64 4), .lit (.int .i64 3)], .agg [.lit (.string []), .lit (.int .i64 0), .lit (.int .i64 0), .lit (.int .i64 0)], .agg [.lit (.string []), .lit (.int .i64 0), .lit (.int .i64 0), .lit (.int .i64 0)], .agg [.lit (.string []), .lit (.int .i64 0), .lit (.int .i64 0), .lit (.int .i64 0)], .agg [.lit (.string []), .lit (.int .i64 0), .lit (.int .i64 0), .lit (.int .i64 0)], .agg [.lit (.string []), .lit (.int .i64 0), .lit (.int .i64 0), .lit (.int .i64 0)], .agg [.lit (.string []), .lit (.int .i64 0), .lit (.int .i64 0), .lit (.int .i64 0)], .agg [.lit (.string []), .lit (.int .i64 0), .lit (.int .i64 0), .lit (.int .i64 0)], .agg [.lit (.string []), .lit (.int .i64 0), .lit (.int .i64 0), .lit (.int .i64 0)], .agg [.lit (.string [32, 61, 32]), .lit (.int .i64 2), .lit (.int .i64 3), .lit (.int .i64 3)], .agg [.lit (.string [32, 124, 61, 32]), .lit (.int .i64 2), .lit (.int .i64 3), .lit (.int .i64 3)], .agg [.lit (.string [32, 43, 61, 32]), .lit (.int .i64 2), .lit (.int .i64 3), .lit (.int .i64 3)], .agg [.lit (.string [32, 45, 61, 32]), .lit (.int .i64 2), .lit (.int .i64 3), .lit (.int .i64 3)], .agg [.lit (.string [32, 42, 61, 32]), .lit (.int .i64 2), .lit (.int .i64 3), .lit (.int .i64 3)], .agg [.lit (.string [32, 47, 61, 32]), .lit (.int .i64 2), .lit (.int .i64 3), .lit (.int .i64 3)], .agg [.lit (.string [32, 37, 61, 32]), .lit (.int .i64 2), .lit (.int .i64 3), .lit (.int .i64 3)], .agg [.lit (.string [32, 47, 47, 61, 32]), .lit (.int .i64 2), .lit (.int .i64 3), .lit (.int .i64 3)]]

/-- 'hallmarklaw18.ShowBack': WHATEVER THE INPUT: true; the input reads as it did. -/
def showBackSpec : ChangeSpec := { name := "showBack", fn := fun _ => fun
  | [d] => { results := [.lit (.bool true)], args := [d] }
  | _ => none }
def showBackRow : OpenClaim := { program := "ytdjleoglphgdgaagreatdoor", sum := "383a45ce0a70ef14466e5e7b655e223c4500fc9d3c88e47af78dd00d5215344d", func := "hallmark/hallmarklaw18.ShowBack", spec := "showBack", inPlace := ["internal/abi.NoEscape", "internal/bytealg.IndexByteString", "internal/bytealg.IndexString", "internal/bytealg.MakeNoZero"], unfollowed := true, recurses := true, named := ["hallmark/show.operations", "strconv.ErrSyntax", "strconv.ErrRange", "internal/strconv.uint64pow10", "math/bits.deBruijn32tab", "math/bits.deBruijn64tab", "hallmark/syntax.operations", "internal/bytealg.MaxLen"], loops := true, apart := false, laid := [("math/bits.deBruijn32tab", laid_math_bits_deBruijn32tab), ("math/bits.deBruijn64tab", laid_math_bits_deBruijn64tab), ("internal/strconv.uint64pow10", laid_internal_strconv_uint64pow10), ("strconv.ErrRange", laid_strconv_ErrRange), ("strconv.ErrSyntax", laid_strconv_ErrSyntax), ("hallmark/syntax.operations", laid_hallmark_syntax_operations), ("hallmark/show.operations", laid_hallmark_show_operations)] }
def ShowBackSaid : Prop := showBackRow.holds Tryz.pinned (OpenSpec.ofChange showBackSpec)

/-- ITS FALSE NEIGHBOUR: 'it returns false'. Refute it at one input. -/
def showBackWrong : ChangeSpec := { name := "showBack", fn := fun _ => fun
  | [d] => { results := [.lit (.bool false)], args := [d] }
  | _ => none }
def ShowBackWrongFalsely : Prop := showBackRow.holds Tryz.pinned (OpenSpec.ofChange showBackWrong)

/-- 'hallmarklaw18.ShowUnlike': WHATEVER THE INPUT: true; the input reads as it did. -/
def showUnlikeSpec : ChangeSpec := { name := "showUnlike", fn := fun _ => fun
  | [d1, d2] => { results := [.lit (.bool true)], args := [d1, d2] }
  | _ => none }
def showUnlikeRow : OpenClaim := { program := "ytdjleoglphgdgaagreatdoor", sum := "383a45ce0a70ef14466e5e7b655e223c4500fc9d3c88e47af78dd00d5215344d", func := "hallmark/hallmarklaw18.ShowUnlike", spec := "showUnlike", inPlace := ["internal/abi.NoEscape", "internal/bytealg.IndexByteString", "internal/bytealg.IndexString", "internal/bytealg.MakeNoZero"], unfollowed := true, recurses := true, named := ["hallmark/show.operations", "internal/bytealg.MaxLen"], loops := true, apart := false, laid := [("hallmark/show.operations", laid_hallmark_show_operations)] }
def ShowUnlikeSaid : Prop := showUnlikeRow.holds Tryz.pinned (OpenSpec.ofChange showUnlikeSpec)

/-- ITS FALSE NEIGHBOUR: 'it returns false'. Refute it at one input. -/
def showUnlikeWrong : ChangeSpec := { name := "showUnlike", fn := fun _ => fun
  | [d1, d2] => { results := [.lit (.bool false)], args := [d1, d2] }
  | _ => none }
def ShowUnlikeWrongFalsely : Prop := showUnlikeRow.holds Tryz.pinned (OpenSpec.ofChange showUnlikeWrong)

/-- 'hallmarklaw18.ShowRead': WHATEVER THE INPUT: true; the input reads as it did. -/
def showReadSpec : ChangeSpec := { name := "showRead", fn := fun _ => fun
  | [d] => { results := [.lit (.bool true)], args := [d] }
  | _ => none }
def showReadRow : OpenClaim := { program := "ytdjleoglphgdgaagreatdoor", sum := "383a45ce0a70ef14466e5e7b655e223c4500fc9d3c88e47af78dd00d5215344d", func := "hallmark/hallmarklaw18.ShowRead", spec := "showRead", inPlace := ["internal/abi.NoEscape", "internal/bytealg.IndexByteString", "internal/bytealg.IndexString", "internal/bytealg.MakeNoZero"], unfollowed := true, recurses := true, named := ["hallmark/show.operations", "strconv.ErrSyntax", "strconv.ErrRange", "internal/strconv.uint64pow10", "math/bits.deBruijn32tab", "math/bits.deBruijn64tab", "hallmark/syntax.operations", "internal/bytealg.MaxLen"], apart := false, laid := [("math/bits.deBruijn32tab", laid_math_bits_deBruijn32tab), ("math/bits.deBruijn64tab", laid_math_bits_deBruijn64tab), ("internal/strconv.uint64pow10", laid_internal_strconv_uint64pow10), ("strconv.ErrRange", laid_strconv_ErrRange), ("strconv.ErrSyntax", laid_strconv_ErrSyntax), ("hallmark/syntax.operations", laid_hallmark_syntax_operations), ("hallmark/show.operations", laid_hallmark_show_operations)] }
def ShowReadSaid : Prop := showReadRow.holds Tryz.pinned (OpenSpec.ofChange showReadSpec)

/-- ITS FALSE NEIGHBOUR: 'it returns false'. Refute it at one input. -/
def showReadWrong : ChangeSpec := { name := "showRead", fn := fun _ => fun
  | [d] => { results := [.lit (.bool false)], args := [d] }
  | _ => none }
def ShowReadWrongFalsely : Prop := showReadRow.holds Tryz.pinned (OpenSpec.ofChange showReadWrong)

/-- 'hallmarklaw18.ShowKnown': WHATEVER THE INPUT: true; the input reads as it did. -/
def showKnownSpec : ChangeSpec := { name := "showKnown", fn := fun _ => fun
  | [] => { results := [.lit (.bool true)], args := [] }
  | _ => none }
def showKnownRow : OpenClaim := { program := "ytdjleoglphgdgaagreatdoor", sum := "383a45ce0a70ef14466e5e7b655e223c4500fc9d3c88e47af78dd00d5215344d", func := "hallmark/hallmarklaw18.ShowKnown", spec := "showKnown", inPlace := ["internal/bytealg.IndexByteString", "internal/abi.NoEscape", "internal/bytealg.IndexString", "internal/bytealg.MakeNoZero"], unfollowed := true, recurses := true, named := ["strconv.ErrSyntax", "strconv.ErrRange", "internal/strconv.uint64pow10", "math/bits.deBruijn32tab", "math/bits.deBruijn64tab", "hallmark/syntax.operations", "hallmark/show.operations", "internal/bytealg.MaxLen"], apart := false, laid := [("math/bits.deBruijn32tab", laid_math_bits_deBruijn32tab), ("math/bits.deBruijn64tab", laid_math_bits_deBruijn64tab), ("internal/strconv.uint64pow10", laid_internal_strconv_uint64pow10), ("strconv.ErrRange", laid_strconv_ErrRange), ("strconv.ErrSyntax", laid_strconv_ErrSyntax), ("hallmark/syntax.operations", laid_hallmark_syntax_operations), ("hallmark/show.operations", laid_hallmark_show_operations)] }
def ShowKnownSaid : Prop := showKnownRow.holds Tryz.pinned (OpenSpec.ofChange showKnownSpec)

/-- ITS FALSE NEIGHBOUR: 'it returns false'. Refute it at one input. -/
def showKnownWrong : ChangeSpec := { name := "showKnown", fn := fun _ => fun
  | [] => { results := [.lit (.bool false)], args := [] }
  | _ => none }
def ShowKnownWrongFalsely : Prop := showKnownRow.holds Tryz.pinned (OpenSpec.ofChange showKnownWrong)

/-- 'hallmarktop.WholeFilter': WHATEVER THE INPUT: true; the input reads as it did. -/
def wholeFilterSpec : ChangeSpec := { name := "wholeFilter", fn := fun _ => fun
  | [d] => { results := [.lit (.bool true)], args := [d] }
  | _ => none }
def wholeFilterRow : OpenClaim := { program := "ytdjleoglphgdgaagreatdoor", sum := "383a45ce0a70ef14466e5e7b655e223c4500fc9d3c88e47af78dd00d5215344d", func := "hallmark/hallmarktop.WholeFilter", spec := "wholeFilter", inPlace := ["internal/bytealg.IndexByteString", "internal/abi.NoEscape", "internal/bytealg.IndexString", "internal/bytealg.MakeNoZero"], unfollowed := true, recurses := true, named := ["strconv.ErrSyntax", "strconv.ErrRange", "internal/strconv.uint64pow10", "math/bits.deBruijn32tab", "math/bits.deBruijn64tab", "hallmark/syntax.operations", "hallmark/show.operations", "internal/bytealg.MaxLen"], apart := false, laid := [("math/bits.deBruijn32tab", laid_math_bits_deBruijn32tab), ("math/bits.deBruijn64tab", laid_math_bits_deBruijn64tab), ("internal/strconv.uint64pow10", laid_internal_strconv_uint64pow10), ("strconv.ErrRange", laid_strconv_ErrRange), ("strconv.ErrSyntax", laid_strconv_ErrSyntax), ("hallmark/syntax.operations", laid_hallmark_syntax_operations), ("hallmark/show.operations", laid_hallmark_show_operations)] }
def WholeFilterSaid : Prop := wholeFilterRow.holds Tryz.pinned (OpenSpec.ofChange wholeFilterSpec)

/-- ITS FALSE NEIGHBOUR: 'it returns false'. Refute it at one input. -/
def wholeFilterWrong : ChangeSpec := { name := "wholeFilter", fn := fun _ => fun
  | [d] => { results := [.lit (.bool false)], args := [d] }
  | _ => none }
def WholeFilterWrongFalsely : Prop := wholeFilterRow.holds Tryz.pinned (OpenSpec.ofChange wholeFilterWrong)

/- THE SECOND FORM. 'bulk': how many values and letters a reading holds, each counted each time it is reached (what is shared counts as often as it is met; a slice's spare places count too). A statement '..UptoSaid' is the law's where the arguments, and the package variables that the reading takes, are together of bulk at most 1048576: NARROWER than '..Said'. Prove '..Said' where nothing that the law and all that it calls make is longer than what came in: it says more and counts as full. Else prove '..UptoSaid'. A law counts once. -/
mutual
def uptoBulk {H : Type} : DataW H → Nat
  | .lit (.string bytes) => bytes.length + 1
  | .lit _ => 1
  | .nil => 1
  | .ptr d => uptoBulk d + 1
  | .slice elems spare => uptoBulkAll elems + uptoBulkAll spare + 1
  | .agg parts => uptoBulkAll parts + 1
  | .iface _ d => uptoBulk d + 1
  | .map entries => uptoBulkEntries entries + 1
  | .held _ => 1
def uptoBulkAll {H : Type} : List (DataW H) → Nat
  | [] => 0
  | d :: r => uptoBulk d + uptoBulkAll r
def uptoBulkEntries {H : Type} : List (Lit × DataW H) → Nat
  | [] => 0
  | x :: r => uptoBulkEntry x + uptoBulkEntries r
def uptoBulkEntry {H : Type} : Lit × DataW H → Nat
  | (.string bytes, d) => bytes.length + uptoBulk d + 1
  | (_, d) => uptoBulk d + 1
 end
def uptoSmall : (H : Type) → List (DataW H) → Bool := fun _ ds => decide (uptoBulkAll ds ≤ 1048576)
def OpenSpec.upto (s : _root_.Go.ChangeSpec) : _root_.Go.OpenSpec := { _root_.Go.OpenSpec.ofChange s with cond := some uptoSmall }

/-- 'hallmarklaw18.ShowBack', WHERE WHAT IT READS IS OF BULK AT MOST 1048576: true; the input reads as it did. -/
def showBackUptoRow : OpenClaim := { program := "ytdjleoglphgdgaagreatdoor", sum := "383a45ce0a70ef14466e5e7b655e223c4500fc9d3c88e47af78dd00d5215344d", func := "hallmark/hallmarklaw18.ShowBack", spec := "showBack", inPlace := ["internal/abi.NoEscape", "internal/bytealg.IndexByteString", "internal/bytealg.IndexString", "internal/bytealg.MakeNoZero"], unfollowed := true, recurses := true, named := ["hallmark/show.operations", "strconv.ErrSyntax", "strconv.ErrRange", "internal/strconv.uint64pow10", "math/bits.deBruijn32tab", "math/bits.deBruijn64tab", "hallmark/syntax.operations", "internal/bytealg.MaxLen"], loops := true, apart := false, laid := [("math/bits.deBruijn32tab", laid_math_bits_deBruijn32tab), ("math/bits.deBruijn64tab", laid_math_bits_deBruijn64tab), ("internal/strconv.uint64pow10", laid_internal_strconv_uint64pow10), ("strconv.ErrRange", laid_strconv_ErrRange), ("strconv.ErrSyntax", laid_strconv_ErrSyntax), ("hallmark/syntax.operations", laid_hallmark_syntax_operations), ("hallmark/show.operations", laid_hallmark_show_operations)], narrowed := true }
def ShowBackUptoSaid : Prop := showBackUptoRow.holds Tryz.pinned (OpenSpec.upto showBackSpec)

/-- 'hallmarklaw18.ShowUnlike', WHERE WHAT IT READS IS OF BULK AT MOST 1048576: true; the input reads as it did. -/
def showUnlikeUptoRow : OpenClaim := { program := "ytdjleoglphgdgaagreatdoor", sum := "383a45ce0a70ef14466e5e7b655e223c4500fc9d3c88e47af78dd00d5215344d", func := "hallmark/hallmarklaw18.ShowUnlike", spec := "showUnlike", inPlace := ["internal/abi.NoEscape", "internal/bytealg.IndexByteString", "internal/bytealg.IndexString", "internal/bytealg.MakeNoZero"], unfollowed := true, recurses := true, named := ["hallmark/show.operations", "internal/bytealg.MaxLen"], loops := true, apart := false, laid := [("hallmark/show.operations", laid_hallmark_show_operations)], narrowed := true }
def ShowUnlikeUptoSaid : Prop := showUnlikeUptoRow.holds Tryz.pinned (OpenSpec.upto showUnlikeSpec)

/-- 'hallmarklaw18.ShowRead', WHERE WHAT IT READS IS OF BULK AT MOST 1048576: true; the input reads as it did. -/
def showReadUptoRow : OpenClaim := { program := "ytdjleoglphgdgaagreatdoor", sum := "383a45ce0a70ef14466e5e7b655e223c4500fc9d3c88e47af78dd00d5215344d", func := "hallmark/hallmarklaw18.ShowRead", spec := "showRead", inPlace := ["internal/abi.NoEscape", "internal/bytealg.IndexByteString", "internal/bytealg.IndexString", "internal/bytealg.MakeNoZero"], unfollowed := true, recurses := true, named := ["hallmark/show.operations", "strconv.ErrSyntax", "strconv.ErrRange", "internal/strconv.uint64pow10", "math/bits.deBruijn32tab", "math/bits.deBruijn64tab", "hallmark/syntax.operations", "internal/bytealg.MaxLen"], apart := false, laid := [("math/bits.deBruijn32tab", laid_math_bits_deBruijn32tab), ("math/bits.deBruijn64tab", laid_math_bits_deBruijn64tab), ("internal/strconv.uint64pow10", laid_internal_strconv_uint64pow10), ("strconv.ErrRange", laid_strconv_ErrRange), ("strconv.ErrSyntax", laid_strconv_ErrSyntax), ("hallmark/syntax.operations", laid_hallmark_syntax_operations), ("hallmark/show.operations", laid_hallmark_show_operations)], narrowed := true }
def ShowReadUptoSaid : Prop := showReadUptoRow.holds Tryz.pinned (OpenSpec.upto showReadSpec)

/-- 'hallmarklaw18.ShowKnown', WHERE WHAT IT READS IS OF BULK AT MOST 1048576: true; the input reads as it did. -/
def showKnownUptoRow : OpenClaim := { program := "ytdjleoglphgdgaagreatdoor", sum := "383a45ce0a70ef14466e5e7b655e223c4500fc9d3c88e47af78dd00d5215344d", func := "hallmark/hallmarklaw18.ShowKnown", spec := "showKnown", inPlace := ["internal/bytealg.IndexByteString", "internal/abi.NoEscape", "internal/bytealg.IndexString", "internal/bytealg.MakeNoZero"], unfollowed := true, recurses := true, named := ["strconv.ErrSyntax", "strconv.ErrRange", "internal/strconv.uint64pow10", "math/bits.deBruijn32tab", "math/bits.deBruijn64tab", "hallmark/syntax.operations", "hallmark/show.operations", "internal/bytealg.MaxLen"], apart := false, laid := [("math/bits.deBruijn32tab", laid_math_bits_deBruijn32tab), ("math/bits.deBruijn64tab", laid_math_bits_deBruijn64tab), ("internal/strconv.uint64pow10", laid_internal_strconv_uint64pow10), ("strconv.ErrRange", laid_strconv_ErrRange), ("strconv.ErrSyntax", laid_strconv_ErrSyntax), ("hallmark/syntax.operations", laid_hallmark_syntax_operations), ("hallmark/show.operations", laid_hallmark_show_operations)], narrowed := true }
def ShowKnownUptoSaid : Prop := showKnownUptoRow.holds Tryz.pinned (OpenSpec.upto showKnownSpec)

/-- 'hallmarktop.WholeFilter', WHERE WHAT IT READS IS OF BULK AT MOST 1048576: true; the input reads as it did. -/
def wholeFilterUptoRow : OpenClaim := { program := "ytdjleoglphgdgaagreatdoor", sum := "383a45ce0a70ef14466e5e7b655e223c4500fc9d3c88e47af78dd00d5215344d", func := "hallmark/hallmarktop.WholeFilter", spec := "wholeFilter", inPlace := ["internal/bytealg.IndexByteString", "internal/abi.NoEscape", "internal/bytealg.IndexString", "internal/bytealg.MakeNoZero"], unfollowed := true, recurses := true, named := ["strconv.ErrSyntax", "strconv.ErrRange", "internal/strconv.uint64pow10", "math/bits.deBruijn32tab", "math/bits.deBruijn64tab", "hallmark/syntax.operations", "hallmark/show.operations", "internal/bytealg.MaxLen"], apart := false, laid := [("math/bits.deBruijn32tab", laid_math_bits_deBruijn32tab), ("math/bits.deBruijn64tab", laid_math_bits_deBruijn64tab), ("internal/strconv.uint64pow10", laid_internal_strconv_uint64pow10), ("strconv.ErrRange", laid_strconv_ErrRange), ("strconv.ErrSyntax", laid_strconv_ErrSyntax), ("hallmark/syntax.operations", laid_hallmark_syntax_operations), ("hallmark/show.operations", laid_hallmark_show_operations)], narrowed := true }
def WholeFilterUptoSaid : Prop := wholeFilterUptoRow.holds Tryz.pinned (OpenSpec.upto wholeFilterSpec)

end Rows
end Go.Proofs.YtdjleoglphgdgaaGreatDoor
