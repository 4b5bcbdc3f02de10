import Derived.Test.YtdjleoglphgdgaaGreatDoorM34
import Derived.Test.YtdjleoglphgdgaaGreatDoorM22
namespace Go.Proofs.YtdjleoglphgdgaaGreatDoor
open Go.ChangeShapes Go.WideShapes Go.RowKit
set_option linter.unusedVariables false

instance : Inhabited NT := ⟨.mk 0 0 .empty (.mk 0 .empty .empty [] []) [] []⟩
theorem g_cellsN : Tryz.prog.cellsOf 28 = 10 := by kernel_rfl
theorem g_cellsNs : Tryz.prog.cellsOf 26 = 1 := by kernel_rfl
def ndF (l : List Value) : Fin 10 → Value := fun j => l.getD j.1 (.int .i64 0)

section
variable {H : Type} {enc : TypeId × Value → H} {W : World}

end
end Go.Proofs.YtdjleoglphgdgaaGreatDoor
