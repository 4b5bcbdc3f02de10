import Derived.Test.YtohclfgghobldaaRows
import Derived.WalkKit
import Derived.Lib.Strings
import Derived.Deep.QuietTactic
import Derived.BigQuiet
import Derived.Outline
import Derived.WalkLawsBesides
namespace Go.Proofs.Ytohclfgghobldaa
open Go.RowKit
set_option linter.unusedVariables false
set_option linter.unusedSimpArgs false

theorem Hid.mk {p : Prop} (h : p) : Hid p := h
theorem dropWhile_le (p : UInt8 → Bool) : ∀ l : List UInt8, (l.dropWhile p).length ≤ l.length
  | [] => Nat.le_refl _
  | c :: r => by
    rw [List.dropWhile_cons]
    split
    · exact Nat.le_trans (dropWhile_le p r) (Nat.le_succ _)
    · exact Nat.le_refl _
def cut (l : List UInt8) (a b : Nat) : List UInt8 := (l.drop a).take (b - a)
end Go.Proofs.Ytohclfgghobldaa
