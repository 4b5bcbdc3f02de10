import Derived.Test.YtbfjpmbninlbbabGreatDoorV16
namespace Go.Proofs.YtbfjpmbninlbbabGreatDoor
open Go.RowKit
set_option linter.unusedVariables false
set_option linter.unusedSimpArgs false

set_option maxHeartbeats 800000 in
theorem w_Size (n : Nat) (w : World) (hn : n ≤ 1114111) :
    Calls Tryz.prog 62 #[.int .i64 (n : Int)] w fun e w' => e = .returned (.int .i64 ((enc n).length : Int)) ∧ w' = w := by
  by_cases h1 : n < 0x80
  · have HL : Hid ((enc n).length = 1) := by show _ = _; unfold enc; rw [if_pos h1]; rfl
    have q1 : (n : Int) < 128 := by omega
    clear h1
    go_enter Tryz.func62, Tryz.ntmps62
    go_wp2_with fail
    go_ret
    exact ⟨by rw [HL.out]; rfl, rfl⟩
  by_cases h2 : n < 0x800
  · have HL : Hid ((enc n).length = 2) := by show _ = _; unfold enc; rw [if_neg h1, if_pos h2]; rfl
    have q1 : ¬ (n : Int) < 128 := by omega
    have q2 : (n : Int) < 2048 := by omega
    clear h1 h2
    go_enter Tryz.func62, Tryz.ntmps62
    go_wp2_with fail
    go_ret
    exact ⟨by rw [HL.out]; rfl, rfl⟩
  by_cases h3 : n < 0x10000
  · have HL : Hid ((enc n).length = 3) := by show _ = _; unfold enc; rw [if_neg h1, if_neg h2, if_pos h3]; rfl
    have q2 : ¬ (n : Int) < 2048 := by omega
    have q1 : ¬ (n : Int) < 128 := by omega
    have q3 : (n : Int) < 65536 := by omega
    clear h1 h2 h3
    go_enter Tryz.func62, Tryz.ntmps62
    go_wp2_with fail
    go_ret
    exact ⟨by rw [HL.out]; rfl, rfl⟩
  · have HL : Hid ((enc n).length = 4) := by show _ = _; unfold enc; rw [if_neg h1, if_neg h2, if_neg h3]; rfl
    have q1 : ¬ (n : Int) < 128 := by omega
    have q2 : ¬ (n : Int) < 2048 := by omega
    have q3 : ¬ (n : Int) < 65536 := by omega
    clear h1 h2 h3
    go_enter Tryz.func62, Tryz.ntmps62
    go_wp2_with fail
    go_ret
    exact ⟨by rw [HL.out]; rfl, rfl⟩
end Go.Proofs.YtbfjpmbninlbbabGreatDoor
