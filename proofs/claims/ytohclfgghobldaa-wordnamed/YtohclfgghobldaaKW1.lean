import Derived.Test.YtohclfgghobldaaKWp
import Derived.Test.YtohclfgghobldaaD2
namespace Go.Proofs.Ytohclfgghobldaa
open Go.RowKit
set_option linter.unusedVariables false
set_option linter.unusedSimpArgs false

set_option maxRecDepth 100000 in
set_option maxHeartbeats 1600000 in
theorem w_wDigit (c : UInt8) (w : World) :
    Calls Try.prog 16 #[.int .u8 ((c.toNat : Nat) : Int)] w fun e w' => e = .returned (.bool (dgB c)) ∧ w' = w := by
  have ht : ∀ b, dgB c = b → dgB c = b := fun _ h => h
  unfold dgB at ht
  have hlt := c.toNat_lt
  obtain ⟨x, hx⟩ : ∃ x : Int, ((c.toNat : Nat) : Int) = x := ⟨_, rfl⟩
  rw [hx]
  have hcs : (48 ≤ x ∧ x ≤ 57) ∨ (48 ≤ x ∧ ¬ x ≤ 57) ∨ (¬ 48 ≤ x ∧ x ≤ 57) := by omega
  rcases hcs with ⟨q0, q1⟩ | ⟨q0, q1⟩ | ⟨q0, q1⟩
  · have HT : dgB c = true := by unfold dgB; exact decide_eq_true (by omega)
    rw [HT]
    clear HT ht hx hlt
    go_enter Try.func16, Try.ntmps16
    go_wp2_with fail
    go_ret
    exact ⟨by first | rfl | simp [*], rfl⟩
  · have HT : dgB c = false := by unfold dgB; exact decide_eq_false (by omega)
    rw [HT]
    clear HT ht hx hlt
    go_enter Try.func16, Try.ntmps16
    go_wp2_with fail
    go_ret
    exact ⟨by first | rfl | simp [*], rfl⟩
  · have HT : dgB c = false := by unfold dgB; exact decide_eq_false (by omega)
    rw [HT]
    clear HT ht hx hlt
    go_enter Try.func16, Try.ntmps16
    go_wp2_with fail
    go_ret
    exact ⟨by first | rfl | simp [*], rfl⟩

set_option maxRecDepth 100000 in
set_option maxHeartbeats 1600000 in
theorem w_wLetter (c : UInt8) (w : World) :
    Calls Try.prog 13 #[.int .u8 ((c.toNat : Nat) : Int)] w fun e w' => e = .returned (.bool (leB c)) ∧ w' = w := by
  have ht : ∀ b, leB c = b → leB c = b := fun _ h => h
  unfold leB at ht
  have hlt := c.toNat_lt
  obtain ⟨x, hx⟩ : ∃ x : Int, ((c.toNat : Nat) : Int) = x := ⟨_, rfl⟩
  rw [hx]
  have hcs : (97 ≤ x ∧ x ≤ 122) ∨ (97 ≤ x ∧ ¬ x ≤ 122 ∧ 65 ≤ x ∧ ¬ x ≤ 90 ∧ ¬ x = 95) ∨ (¬ 97 ≤ x ∧ 65 ≤ x ∧ x ≤ 90) ∨ (¬ 97 ≤ x ∧ 65 ≤ x ∧ ¬ x ≤ 90 ∧ x = 95) ∨ (¬ 97 ≤ x ∧ 65 ≤ x ∧ ¬ x ≤ 90 ∧ ¬ x = 95) ∨ (¬ 97 ≤ x ∧ ¬ 65 ≤ x ∧ ¬ x = 95) := by omega
  rcases hcs with ⟨q0, q1⟩ | ⟨q0, q1, q2, q3, q4⟩ | ⟨q0, q1, q2⟩ | ⟨q0, q1, q2, q3⟩ | ⟨q0, q1, q2, q3⟩ | ⟨q0, q1, q2⟩
  · have HT : leB c = true := by unfold leB; exact decide_eq_true (by omega)
    rw [HT]
    clear HT ht hx hlt
    go_enter Try.func13, Try.ntmps13
    go_wp2_with fail
    go_ret
    exact ⟨by first | rfl | simp [*], rfl⟩
  · have HT : leB c = false := by unfold leB; exact decide_eq_false (by omega)
    rw [HT]
    clear HT ht hx hlt
    go_enter Try.func13, Try.ntmps13
    go_wp2_with fail
    go_ret
    exact ⟨by first | rfl | simp [*], rfl⟩
  · have HT : leB c = true := by unfold leB; exact decide_eq_true (by omega)
    rw [HT]
    clear HT ht hx hlt
    go_enter Try.func13, Try.ntmps13
    go_wp2_with fail
    go_ret
    exact ⟨by first | rfl | simp [*], rfl⟩
  · have HT : leB c = true := by unfold leB; exact decide_eq_true (by omega)
    rw [HT]
    subst q3
    clear HT ht hx hlt q0 q1 q2
    go_enter Try.func13, Try.ntmps13
    go_wp2_with fail
    go_ret
    exact ⟨by first | rfl | simp [*], rfl⟩
  · have HT : leB c = false := by unfold leB; exact decide_eq_false (by omega)
    rw [HT]
    clear HT ht hx hlt
    go_enter Try.func13, Try.ntmps13
    go_wp2_with fail
    go_ret
    exact ⟨by first | rfl | simp [*], rfl⟩
  · have HT : leB c = false := by unfold leB; exact decide_eq_false (by omega)
    rw [HT]
    clear HT ht hx hlt
    go_enter Try.func13, Try.ntmps13
    go_wp2_with fail
    go_ret
    exact ⟨by first | rfl | simp [*], rfl⟩

set_option maxRecDepth 100000 in
set_option maxHeartbeats 1600000 in
theorem w_wInName (c : UInt8) (w : World) :
    Calls Try.prog 15 #[.int .u8 ((c.toNat : Nat) : Int)] w fun e w' => e = .returned (.bool (inB c)) ∧ w' = w := by
  have H1 := Hid.mk (fun u => w_wLetter c u)
  have H2 := Hid.mk (fun u => w_wDigit c u)
  unfold inB
  cases h1 : leB c with
  | true =>
    rw [h1] at H1
    clear h1 H2
    rw [Bool.true_or]
    generalize ((c.toNat : Nat) : Int) = x at *
    go_enter Try.func15, Try.ntmps15
    go_wp2_with fail
    refine (H1.out _).mono ?_
    rintro e w1 ⟨rfl, rfl⟩
    go_wp2_with fail
    go_ret
    exact ⟨rfl, rfl⟩
  | false =>
    rw [h1] at H1
    clear h1
    rw [Bool.false_or]
    generalize dgB c = b2 at *
    generalize ((c.toNat : Nat) : Int) = x at *
    go_enter Try.func15, Try.ntmps15
    go_wp2_with fail
    refine (H1.out _).mono ?_
    rintro e w1 ⟨rfl, rfl⟩
    go_wp2_with fail
    refine (H2.out _).mono ?_
    rintro e w1 ⟨rfl, rfl⟩
    go_wp2_with fail
    go_ret
    exact ⟨rfl, rfl⟩
end Go.Proofs.Ytohclfgghobldaa
