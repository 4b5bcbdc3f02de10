import Derived.Test.YtdjleoglphgdgaaGreatDoorM16
import Derived.Test.YtdjleoglphgdgaaGreatDoorM27
import Derived.Test.YtdjleoglphgdgaaGreatDoorM13
namespace Go.Proofs.YtdjleoglphgdgaaGreatDoor
open Go.RowKit
set_option linter.unusedVariables false
set_option linter.unusedSimpArgs false

/-- the pieces' row, as it lies -/
structure PRow (s : ByteArray) (w : World) (g : Nat) : Prop where
  row : ∃ cur, w.heap[g]? = some (.cells cur 111 (0, 0)) ∧ cur.toList.take ((runes s.data.toList).length * 4) = prow s (runes s.data.toList).length
end Go.Proofs.YtdjleoglphgdgaaGreatDoor
namespace Go.Proofs.YtdjleoglphgdgaaGreatDoor
open Go.RowKit
set_option linter.unusedVariables false
set_option linter.unusedSimpArgs false

theorem PRow.keep {s : ByteArray} {w w' : World} {g : Nat} (h : PRow s w g) (hb : Below w.heap.size w w') : PRow s w' g := by
  obtain ⟨cur, h1, h2⟩ := h.row
  exact ⟨cur, by rw [hb.block g (Array.getElem?_eq_some_iff.1 h1).1]; exact h1, h2⟩

end Go.Proofs.YtdjleoglphgdgaaGreatDoor
