import Derived.Test.YtkaaleeldpghoaaGreatM18
namespace Go.Proofs.YtkaaleeldpghoaaGreat
open Go.RowKit
set_option linter.unusedVariables false
set_option linter.unusedSimpArgs false

theorem sum_take_up {α : Type} (f : α → Nat) {ts : List α} {k : Nat} (hk : k < ts.length) : sumL ((ts.take (k + 1)).map f) = sumL ((ts.take k).map f) + f ts[k] := by
  rw [List.take_add_one, List.getElem?_eq_getElem hk, List.map_append, sumL_append]
  simp [sumL]

/-- what Parts answers, where it isn't cut short -/
def PtE (h : Nat) (T : VT) (most : Int) (w w' : World) (e : Ending) : Prop := ∃ p : Int, e = .returned (.int .i64 p) ∧ 0 ≤ p ∧ p ≤ most + 140737488355329 ∧ (p ≤ most → p = (szN h T : Int)) ∧ Below w.heap.size w w'
end Go.Proofs.YtkaaleeldpghoaaGreat
namespace Go.Proofs.YtkaaleeldpghoaaGreat
open Go.RowKit
set_option linter.unusedVariables false
set_option linter.unusedSimpArgs false

theorem sum_take_le {α : Type} (f : α → Nat) (ts : List α) (k : Nat) : sumL ((ts.take k).map f) ≤ sumL (ts.map f) := by
  conv => rhs; rw [← List.take_append_drop k ts, List.map_append, sumL_append]
  omega
/-- what Parts answers -/
def PtX (h : Nat) (T : VT) (most : Int) (w w' : World) (e : Ending) : Prop := ∃ p : Int, e = .returned (.int .i64 p) ∧ 0 ≤ p ∧ p ≤ most + 140737488355329 ∧ ((p ≤ most → p = (szN h T : Int)) ∧ (most < p → most < (szN h T : Int))) ∧ Below w.heap.size w w'
end Go.Proofs.YtkaaleeldpghoaaGreat
