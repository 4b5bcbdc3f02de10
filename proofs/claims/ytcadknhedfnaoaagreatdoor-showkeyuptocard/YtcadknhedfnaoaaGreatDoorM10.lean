import Derived.Test.YtcadknhedfnaoaaGreatDoorM2
namespace Go.Proofs.YtcadknhedfnaoaaGreatDoor
open Go.RowKit
set_option linter.unusedVariables false
set_option linter.unusedSimpArgs false

set_option maxRecDepth 100000 in
theorem nonhex (c : UInt8) (h : isHex c = false) : (c.toNat = 95 ∧ (c.toNat ||| 32) = 127) ∨ (c.toNat < 48 ∧ (c.toNat ||| 32) < 97) ∨ (58 ≤ c.toNat ∧ c.toNat ≠ 95 ∧ (c.toNat ||| 32) < 97) ∨ (58 ≤ c.toNat ∧ c.toNat ≠ 95 ∧ 122 < (c.toNat ||| 32)) ∨ (58 ≤ c.toNat ∧ c.toNat ≠ 95 ∧ 103 ≤ (c.toNat ||| 32) ∧ (c.toNat ||| 32) ≤ 122) := by
  unfold isHex at h
  simp only [Bool.or_eq_false_iff, Bool.and_eq_false_iff, decide_eq_false_iff_not] at h
  have h95 : c.toNat = 95 → (c.toNat ||| 32) = 127 := by intro e; rw [e]; decide
  have h48 : ∀ m : Fin 48, (m.val ||| 32) < 97 := by decide
  by_cases a : c.toNat < 48
  · right; left; exact ⟨a, h48 ⟨c.toNat, a⟩⟩
  · by_cases e : c.toNat = 95
    · left; exact ⟨e, h95 e⟩
    · omega
end Go.Proofs.YtcadknhedfnaoaaGreatDoor
