import Derived.Test.YthcohnnikmpjkaaRows
import Derived.Test.YthcohnnikmpjkaaPlain
import Derived.WalkKit
import Derived.Deep.QuietTactic
import Derived.BigQuiet
import Derived.Outline
import Derived.WalkLawsBesides
namespace Go.Proofs.Ythcohnnikmpjkaa
open Go.RowKit
set_option linter.unusedVariables false
set_option linter.unusedSimpArgs false

theorem w_cutMinus (s : ByteArray) (w : World) (hs : s.size ≤ maxLen) :
    Calls Try.prog 80 #[.string s] w fun e w' => ∃ r : ByteArray, e = .returned (.tuple #[.bool (Pl.neg s.data.toList), .string r]) ∧ r.data.toList = Pl.body s.data.toList ∧ r.size ≤ s.size ∧ Below w.heap.size w w' := by
  unfold maxLen at hs
  by_cases h0 : s.size = 0
  · have he : s.toList.isEmpty = true := by rw [Pl.isEmpty_of]; simp [h0]
    have hn : s.data.toList = [] := by have := Pl.size_toList s; rw [h0] at this; exact List.eq_nil_of_length_eq_zero this
    have HN : Hid (s.data.toList = []) := hn
    clear hn
    go_enter Try.func80, Try.ntmps80
    go_wp2
    go_ret2
    exact ⟨s, by rw [HN.out]; rfl, by rw [HN.out]; rfl, Nat.le_refl _, Below.refl _ _⟩
  · have hp : 0 < s.size := by omega
    have he : s.toList.isEmpty = false := by rw [Pl.isEmpty_of]; simp [h0]
    have HN : Hid (Pl.neg s.data.toList = decide (s[0].toNat = 45)) := Pl.neg_of s hp
    by_cases h45 : s[0].toNat = 45
    · have hb : (((s[0].toNat : Nat) : Int) == 45) = true := by simp [h45]
      have HN' : Hid (Pl.neg s.data.toList = true) := by show Pl.neg s.data.toList = true; rw [HN.out]; simp [h45]
      clear HN h45
      go_enter Try.func80, Try.ntmps80
      go_wp2
      go_quiet (fail)
      go_wp2
      go_ret2
      refine ⟨s.extract 1 s.size, by rw [HN'.out]; rfl, ?_, ?_, ?_⟩
      · rw [Pl.extract_tail, Pl.body, HN'.out]; rfl
      · simp
      · exact below_drewN (Below.refl _ _) _
    · have hb : (((s[0].toNat : Nat) : Int) == 45) = false := by simp; omega
      have HN' : Hid (Pl.neg s.data.toList = false) := by show Pl.neg s.data.toList = false; rw [HN.out]; simp [h45]
      clear HN h45
      go_enter Try.func80, Try.ntmps80
      go_wp2
      go_ret2
      exact ⟨s, by rw [HN'.out]; rfl, by rw [Pl.body, HN'.out]; rfl, Nat.le_refl _, Below.refl _ _⟩
end Go.Proofs.Ythcohnnikmpjkaa
