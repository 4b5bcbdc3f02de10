import Derived.Test.YtdjleoglphgdgaaGreatDoorM16
import Derived.Test.YtdjleoglphgdgaaGreatDoorM12
import Derived.Test.YtdjleoglphgdgaaGreatDoorM21
import Derived.Deep.AppendLies
set_option linter.unusedVariables false
set_option linter.unusedSimpArgs false
namespace Go.Proofs.YtdjleoglphgdgaaGreatDoor
open Go.RowKit
theorem BRow.keep {w w':World} {g:Nat} {l:List UInt8} (h:BRow w g l) (hb:Below w.heap.size w w'):BRow w' g l:=by
 unfold BRow at *;rw [hb.block g (Array.getElem?_eq_some_iff.1 h).1];exact h
end Go.Proofs.YtdjleoglphgdgaaGreatDoor
