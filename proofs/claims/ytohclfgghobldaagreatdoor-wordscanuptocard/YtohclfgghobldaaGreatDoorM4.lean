import Derived.Test.YtohclfgghobldaaGreatDoorM3
import Derived.Laws.RangeAny
namespace Go.Proofs.YtohclfgghobldaaGreatDoor
open Go.RowKit
set_option linter.unusedVariables false
set_option linter.unusedSimpArgs false

set_option maxHeartbeats 400000 in
theorem w_stray_no (s : ByteArray) (p r : Int) (w : World) (hr : (r == 65533) = false) :
    Calls Tryz.prog 125 #[.string s, .int .i64 p, .int .i32 r] w fun e w' => e = .returned (.bool false) ∧ w' = w := by
  go_enter Tryz.func125, Tryz.ntmps125
  go_wp2_with fail
  go_ret
  exact ⟨rfl, rfl⟩

theorem iter_below (w : World) (s : ByteArray) (p : Nat) : Below w.heap.size w (w.iter s p) := below1 w _

theorem nxt (w : World) (s : ByteArray) (p : Nat) (r q : Nat) (ty : TypeId) (h : p < s.size) (hd : Utf8.decode s p = (r, q - p)) (hq : p ≤ q) :
    (Instr.next (.pointer (some ⟨w.heap.size, 0, none⟩)) true ty).run Tryz.prog (w.iter s p) = .ok (.tuple #[.bool true, .int .i64 (p : Int), .int .i32 (r : Int)]) (w.iter s q) := by
  have := run_next_any (P := Tryz.prog) w s p ty h
  rw [hd] at this
  rw [show p + (q - p) = q by omega] at this
  exact this
end Go.Proofs.YtohclfgghobldaaGreatDoor
