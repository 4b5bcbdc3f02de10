import Derived.Test.YtdjleoglphgdgaaGreatDoorM15
namespace Go.Proofs.YtdjleoglphgdgaaGreatDoor
open Go.RowKit
set_option linter.unusedVariables false
set_option linter.unusedSimpArgs false

/-- the cells of the reference's piece -/
def pcC (s : ByteArray) (f : Nat) : List Value := [.int .i64 (f : Int), .int .i64 ((f + (decL (s.data.toList.drop f)).2 : Nat) : Int), .int .i64 ((decL (s.data.toList.drop f)).1 : Int), .bool (strayL (s.data.toList.drop f))]
def prow (s : ByteArray) (n : Nat) : List Value := (List.range n).flatMap fun k => pcC s (off s.data.toList k)
end Go.Proofs.YtdjleoglphgdgaaGreatDoor
