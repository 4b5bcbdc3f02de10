import Derived.Test.YtaflpeajapdkdaaM3
import Derived.Laws.RangeAny
namespace Go.Proofs.Ytaflpeajapdkdaa
open Go.RowKit
set_option linter.unusedVariables false
set_option linter.unusedSimpArgs false

set_option maxHeartbeats 400000 in
theorem w_stray_no (s : ByteArray) (p r : Int) (w : World) (hr : (r == 65533) = false) :
    Calls Try.prog 39 #[.string s, .int .i64 p, .int .i32 r] w fun e w' => e = .returned (.bool false) ∧ w' = w := by
  go_enter Try.func39, Try.ntmps39
  go_wp2_with fail
  go_ret
  exact ⟨rfl, rfl⟩

theorem iter_below (w : World) (s : ByteArray) (p : Nat) : Below w.heap.size w (w.iter s p) := below1 w _

theorem nxt (w : World) (s : ByteArray) (p : Nat) (r q : Nat) (ty : TypeId) (h : p < s.size) (hd : Utf8.decode s p = (r, q - p)) (hq : p ≤ q) :
    (Instr.next (.pointer (some ⟨w.heap.size, 0, none⟩)) true ty).run Try.prog (w.iter s p) = .ok (.tuple #[.bool true, .int .i64 (p : Int), .int .i32 (r : Int)]) (w.iter s q) := by
  have := run_next_any (P := Try.prog) w s p ty h
  rw [hd] at this
  rw [show p + (q - p) = q by omega] at this
  exact this

set_option maxRecDepth 100000 in
set_option maxHeartbeats 800000 in
theorem f_Valid (w : World) : Calls Try.prog 29 #[.string ⟨#[97]⟩] w fun e w' => e = .returned (.bool true) ∧ Below w.heap.size w w' := by
  have h0 := fun ty => nxt w ⟨#[97]⟩ 0 97 1 ty (by decide) (by decide) (by decide)
  have h1 := fun ty => run_next_end (P := Try.prog) w ⟨#[97]⟩ 1 ty (by decide)
  have HS := Hid.mk (fun u => w_stray_no ⟨#[97]⟩ 0 97 u (by decide))
  have HB := Hid.mk (iter_below w ⟨#[97]⟩ 1)
  go_enter Try.func29, Try.ntmps29
  go_wp2_with fail
  refine wp_loop_rounds 2 ?_
  rw [rounds_succ]
  go_wp2_with fail
  refine (HS.out _).mono ?_
  rintro e w1 ⟨rfl, hw⟩
  obtain rfl := hw.symm
  go_wp2_with fail
  rw [rounds_succ]
  go_wp2_with fail
  go_ret
  exact ⟨rfl, HB.out⟩
end Go.Proofs.Ytaflpeajapdkdaa
