import Derived.Test.YtdjleoglphgdgaaGreatDoorM23
import Derived.Test.YtdjleoglphgdgaaGreatDoorM28
import Derived.Test.YtdjleoglphgdgaaGreatDoorM13
set_option linter.unusedVariables false
set_option linter.unusedSimpArgs false
namespace Go.Proofs.YtdjleoglphgdgaaGreatDoor
open Go.RowKit
structure RQ (w wr:World) (v:Value) (n:Nat) (l:List UInt8):Prop where
 own:wr.ownsRow w.heap.size 5 1 v n (Lib.byteCells l)
 len:l.length=n
 below:Below w.heap.size w wr
theorem RQ.keep {w wr w':World} {v:Value} {n:Nat} {l:List UInt8} (h:RQ w wr v n l) (hb:Below wr.heap.size wr w'):RQ w w' v n l:=⟨own_below' h.own hb,h.len,h.below.trans (hb.mono h.below.size)⟩
end Go.Proofs.YtdjleoglphgdgaaGreatDoor
