import Derived.Test.YtaflpeajapdkdaaM23
import Derived.Maps.Own
import Derived.Maps.Views
import Derived.Sort.KeysCollected
namespace Go.Proofs.Ytaflpeajapdkdaa
open Go.RowKit Go.Maps Go.WideMaps
set_option linter.unusedVariables false
set_option linter.unusedSimpArgs false

theorem mlaw : Keyed Try.prog 9 := string_keyed Try.underlying9
theorem mzero (w : World) : (zeroValue 3).run Try.prog w = .ok (.int .i64 0) w := by kernel_rfl

/-- the places of keys, the last of each -/
def LC (keys : List ByteArray) : Nat → DataW Unit
  | 0 => .map []
  | k + 1 => (LC keys k).put (.string (keys.getD k .empty).data.toList) (.lit (.int .i64 (k : Int)))
end Go.Proofs.Ytaflpeajapdkdaa
