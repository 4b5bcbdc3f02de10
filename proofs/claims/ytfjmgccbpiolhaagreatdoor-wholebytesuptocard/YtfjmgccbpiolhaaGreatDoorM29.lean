import Derived.Test.YtfjmgccbpiolhaaGreatDoorRows
import Derived.Test.YtfjmgccbpiolhaaGreatDoorM20
import Derived.Test.YtfjmgccbpiolhaaGreatDoorM27
import Derived.WideKeyArgs
import Derived.WideKeyElems4
import Derived.Deep.Slices
import Derived.OpenShut
import Derived.WalkKit
namespace Go.Proofs.YtfjmgccbpiolhaaGreatDoor
open Go.ChangeShapes Go.WideShapes Go.RowKit
set_option linter.unusedVariables false

theorem IIn.le {W : World} {h h' : Nat} {io : Option Addr} {ts : List VT} (H : IIn W h io ts) (hh : h ≤ h') : IIn W h' io ts := by
  refine ⟨fun h0 => ?_⟩
  obtain ⟨b, off, e, hl, hc⟩ := H.row h0
  refine ⟨b, off, e, hl, fun i hi => ?_⟩
  obtain ⟨v0, v1, v2, v3, v4, c, ht⟩ := hc i hi
  exact ⟨v0, v1, v2, v3, v4, c, ht.le hh⟩

section
variable {H : Type} {enc : TypeId × Value → H} {W : World}

end
end Go.Proofs.YtfjmgccbpiolhaaGreatDoor
namespace Go.Proofs.YtfjmgccbpiolhaaGreatDoor
open Go.ChangeShapes Go.WideShapes Go.RowKit
set_option linter.unusedVariables false

def blN : Nat → VT → Nat
  | 0, _ => 0
  | h + 1, T => T.num.size + T.text.size + sumL (T.keys.map fun k => k.size) + sumL (T.items.map (blN h))
section
variable {H : Type} {enc : TypeId × Value → H} {W : World}

end
end Go.Proofs.YtfjmgccbpiolhaaGreatDoor
