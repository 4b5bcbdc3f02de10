import Derived.Test.YtfgfgcecbodjeaaGreatDoorM9
import Derived.Test.YtfgfgcecbodjeaaGreatDoorM10
import Derived.Deep.RegionWith
import Derived.Deep.RegionHeld3
import Derived.Laws.MakeOwn
namespace Go.Proofs.YtfgfgcecbodjeaaGreatDoor
open Go.RowKit
set_option linter.unusedVariables false
set_option linter.unusedSimpArgs false

theorem byte_eq (s : ByteArray) (k : Nat) (hk : k < s.size) : s.data.toList[k]'(by rw [Array.length_toList]; exact hk) = s[k] := by
  simp [ByteArray.getElem_eq_getElem_data]
theorem size_len (s : ByteArray) : s.data.toList.length = s.size := Array.length_toList

end Go.Proofs.YtfgfgcecbodjeaaGreatDoor
