import Derived.Test.YtdjleoglphgdgaaGreatDoorRows
import Derived.Test.YtdjleoglphgdgaaGreatDoorM2
import Derived.WalkKit
import Derived.BigCall
import Derived.BigGuard
import Derived.Lib.ConvBytes
import Derived.Lib.AtoiErrMem
import Derived.Lib.Strings
import Derived.Laws.Strings3
namespace Go.RowKit
theorem Hid.mk {p : Prop} (h : p) : Hid p := h
end Go.RowKit
namespace Go.Proofs.YtdjleoglphgdgaaGreatDoor
open Go.RowKit
set_option linter.unusedVariables false
set_option linter.unusedSimpArgs false

theorem below_more {w w1 w2 : World} (h : Below w.heap.size w w1) (h2 : Below w1.heap.size w1 w2) : Below w.heap.size w w2 := h.trans (h2.mono h.size)
theorem below1 (w : World) (o1 : Obj) : Below w.heap.size w (w.alloc o1) := (Below.refl w.heap.size w).alloc (Nat.le_refl _) o1

/-- a letter's worth to the base 16 -/
def hexd (c : UInt8) : Nat := if c.toNat ≤ 57 then c.toNat - 48 else (c.toNat ||| 32) - 87
def isHex (c : UInt8) : Bool := (decide (48 ≤ c.toNat) && decide (c.toNat ≤ 57)) || (decide (97 ≤ (c.toNat ||| 32)) && decide ((c.toNat ||| 32) ≤ 102) && decide (58 ≤ c.toNat))
def hexN (l : List UInt8) : Nat := l.foldl (fun n c => n * 16 + hexd c) 0

end Go.Proofs.YtdjleoglphgdgaaGreatDoor
