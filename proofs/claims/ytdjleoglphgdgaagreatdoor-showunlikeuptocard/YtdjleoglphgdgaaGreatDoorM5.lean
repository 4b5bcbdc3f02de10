import Derived.Test.YtdjleoglphgdgaaGreatDoorM4
import Derived.BigQuiet
namespace Go.Proofs.YtdjleoglphgdgaaGreatDoor
open Go.RowKit
set_option linter.unusedVariables false
set_option linter.unusedSimpArgs false

theorem extract_drop (s : ByteArray) (k : Nat) : (s.extract k s.size).data.toList = s.data.toList.drop k := by
  rw [Lib.extract_data]; exact List.take_of_length_le (by simp)
/-- an escape by number stands there -/
structure NumAt (s : ByteArray) (k : Nat) (ds : List UInt8) : Prop where
  len : ds.length = 4
  hex : ds.all isHex = true
  at_ : ∃ pre post, s.data.toList = pre ++ (92 :: 117 :: ds) ++ post ∧ pre.length = k

theorem NumAt.lt {s : ByteArray} {k : Nat} {ds : List UInt8} (h : NumAt s k ds) : k + 6 ≤ s.size := by
  obtain ⟨pre, post, e, hp⟩ := h.at_
  have := congrArg List.length e
  have hl := h.len
  simp at this
  omega

end Go.Proofs.YtdjleoglphgdgaaGreatDoor
