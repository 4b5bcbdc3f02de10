import Derived.Test.YtfgfgcecbodjeaaGreatDoorM5
import Derived.BigRegion
namespace Go.Proofs.YtfgfgcecbodjeaaGreatDoor
open Go.RowKit
set_option linter.unusedVariables false
set_option linter.unusedSimpArgs false

/-- what is no rune counts as FFFD -/
def rn (r : Int) : Nat := if Lib.validRune r then r.toNat else 65533

theorem rn_lt (r : Int) : rn r ≤ 1114111 ∧ ¬ (55296 ≤ rn r ∧ rn r ≤ 57343) := by
  unfold rn Lib.validRune
  split
  · rename_i h
    simp only [decide_eq_true_eq] at h
    omega
  · omega

end Go.Proofs.YtfgfgcecbodjeaaGreatDoor
