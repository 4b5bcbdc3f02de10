import Derived.Test.YtcadknhedfnaoaaGreatDoorM11
namespace Go.Proofs.YtcadknhedfnaoaaGreatDoor
open Go.RowKit
set_option linter.unusedVariables false
set_option linter.unusedSimpArgs false

/-- what Escape may answer -/
def EscR (w w' : World) (e : Ending) : Prop := ∃ r p c, e = .returned (.tuple #[.int .i32 r, .int .i64 p, .int .i64 c]) ∧ (c = 0 ∨ c = 23 ∨ c = 24) ∧ 0 ≤ r ∧ r ≤ 2147483647 ∧ 0 ≤ p ∧ p ≤ 9223372036854775807 ∧ Below w.heap.size w w'
end Go.Proofs.YtcadknhedfnaoaaGreatDoor
