import Derived.Test.YtihhjplbpaafiaaM3
import Derived.Laws.RangeAny
namespace Go.Proofs.Ytihhjplbpaafiaa
open Go.RowKit
set_option linter.unusedVariables false
set_option linter.unusedSimpArgs false

theorem iter_below (w : World) (s : ByteArray) (p : Nat) : Below w.heap.size w (w.iter s p) := below1 w _

theorem nxt (w : World) (s : ByteArray) (p : Nat) (r q : Nat) (ty : TypeId) (h : p < s.size) (hd : Utf8.decode s p = (r, q - p)) (hq : p ≤ q) :
    (Instr.next (.pointer (some ⟨w.heap.size, 0, none⟩)) true ty).run Try.prog (w.iter s p) = .ok (.tuple #[.bool true, .int .i64 (p : Int), .int .i32 (r : Int)]) (w.iter s q) := by
  have := run_next_any (P := Try.prog) w s p ty h
  rw [hd] at this
  rw [show p + (q - p) = q by omega] at this
  exact this
end Go.Proofs.Ytihhjplbpaafiaa
