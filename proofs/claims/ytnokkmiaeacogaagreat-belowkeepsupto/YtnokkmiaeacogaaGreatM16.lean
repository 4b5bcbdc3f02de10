import Derived.Test.YtnokkmiaeacogaaGreatM15
import Derived.Test.YtnokkmiaeacogaaGreatM10
set_option linter.unusedVariables false
set_option linter.unusedSimpArgs false
namespace Go.Proofs.YtnokkmiaeacogaaGreat
open Go.RowKit Go.Shelf
attribute [local go_sem] Oper.semAt_some
def sumL:List Nat→Nat
 | []=>0
 | x::r=>x+sumL r
theorem q0s {x:Nat}:∀ {l:List Nat},x∈l→x≤sumL l
 | a::r,h=>by
  simp only [sumL];rcases List.mem_cons.1 h with rfl|h
  · omega
  · have:=q0s h;omega
structure IBox (W:World) (Bx:Nat) (c:Fin 5→Value):Prop where
 row:W.heap[Bx]? =some (.cells #[c 0,c 1,c 2,c 3,c 4] 115 (0,0))
theorem IBox.cell {W:World} {Bx:Nat} {c:Fin 5→Value} (h:IBox W Bx c):W.cell? ⟨Bx,0,none⟩=some (c 0)∧W.cell? ⟨Bx,1,none⟩=some (c 1)∧W.cell? ⟨Bx,2,none⟩=some (c 2)∧W.cell? ⟨Bx,3,none⟩=some (c 3)∧W.cell? ⟨Bx,4,none⟩=some (c 4):=
 ⟨cell_of_row _ _ 0 _ _ _ h.row,cell_of_row _ _ 1 _ _ _ h.row,cell_of_row _ _ 2 _ _ _ h.row,cell_of_row _ _ 3 _ _ _ h.row,cell_of_row _ _ 4 _ _ _ h.row⟩
end Go.Proofs.YtnokkmiaeacogaaGreat
