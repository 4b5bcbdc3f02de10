import Derived.Test.YtfjmgccbpiolhaaGreatDoorMW15
import Derived.Test.YtfjmgccbpiolhaaGreatDoorMW1
import Derived.Deep.RegionHeld3
namespace Go.Proofs.YtfjmgccbpiolhaaGreatDoor
open Go.RowKit
set_option linter.unusedVariables false
set_option linter.unusedSimpArgs false

theorem below2 (w : World) (o1 o2 : Obj) : Below w.heap.size w ((w.alloc o1).alloc o2) := ((Below.refl _ _).alloc (Nat.le_refl _) _).alloc (by simp) _
theorem getD_key {l : List ByteArray} {k : Nat} (h : k < l.length) : l.getD k ByteArray.empty = l[k] := by simp [List.getD, h]
end Go.Proofs.YtfjmgccbpiolhaaGreatDoor
