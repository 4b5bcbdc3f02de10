import Derived.Test.YtdjleoglphgdgaaGreatDoorM7
import Derived.Laws.RangeAny
set_option linter.unusedVariables false
set_option linter.unusedSimpArgs false
namespace Go.Proofs.YtdjleoglphgdgaaGreatDoor
open Go.RowKit
set_option maxHeartbeats 400000 in
theorem w_stray_no (s:ByteArray) (p r:Int) (w:World) (hr:(r==65533)=false):
 Calls Tryz.prog 63 #[.string s,.int .i64 p,.int .i32 r] w fun e w'=>e= .returned (.bool false)∧w'=w:=by
 go_enter Tryz.func63,Tryz.ntmps63;go_wp2_with fail;go_ret;exact ⟨rfl,rfl⟩
theorem iter_below (w:World) (s:ByteArray) (p:Nat):Below w.heap.size w (w.iter s p):=q0a w _
end Go.Proofs.YtdjleoglphgdgaaGreatDoor
