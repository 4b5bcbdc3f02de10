import Derived.Test.YtohclfgghobldaaDoorM3
import Derived.Laws.RangeAny
namespace Go.Proofs.YtohclfgghobldaaDoor
open Go.RowKit
set_option linter.unusedVariables false
set_option linter.unusedSimpArgs false

set_option maxHeartbeats 400000 in
theorem w_stray_no (s : ByteArray) (p r : Int) (w : World) (hr : (r == 65533) = false) :
    Calls Tryd.prog 44 #[.string s, .int .i64 p, .int .i32 r] w fun e w' => e = .returned (.bool false) ∧ w' = w := by
  go_enter Tryd.func44, Tryd.ntmps44
  go_wp2_with fail
  go_ret
  exact ⟨rfl, rfl⟩

theorem iter_below (w : World) (s : ByteArray) (p : Nat) : Below w.heap.size w (w.iter s p) := below1 w _

theorem nxt (w : World) (s : ByteArray) (p : Nat) (r q : Nat) (ty : TypeId) (h : p < s.size) (hd : Utf8.decode s p = (r, q - p)) (hq : p ≤ q) :
    (Instr.next (.pointer (some ⟨w.heap.size, 0, none⟩)) true ty).run Tryd.prog (w.iter s p) = .ok (.tuple #[.bool true, .int .i64 (p : Int), .int .i32 (r : Int)]) (w.iter s q) := by
  have := run_next_any (P := Tryd.prog) w s p ty h
  rw [hd] at this
  rw [show p + (q - p) = q by omega] at this
  exact this
end Go.Proofs.YtohclfgghobldaaDoor
