import Derived.Test.YtaflpeajapdkdaaM1
import Derived.BigQuiet
namespace Go.Proofs.Ytaflpeajapdkdaa
open Go.RowKit
set_option linter.unusedVariables false
set_option linter.unusedSimpArgs false

theorem extract_drop (s : ByteArray) (k : Nat) : (s.extract k s.size).data.toList = s.data.toList.drop k := by
  rw [Lib.extract_data]; exact List.take_of_length_le (by simp)
theorem extract_take (s : ByteArray) (k : Nat) : (s.extract 0 k).data.toList = s.data.toList.take k := by
  rw [Lib.extract_data]; simp

/-- an escape by number stands there -/
structure NumAt (s : ByteArray) (k : Nat) (ds : List UInt8) : Prop where
  len : ds.length = 4
  hex : ds.all isHex = true
  at_ : ∃ pre post, s.data.toList = pre ++ (92 :: 117 :: ds) ++ post ∧ pre.length = k

theorem NumAt.lt {s : ByteArray} {k : Nat} {ds : List UInt8} (h : NumAt s k ds) : k + 6 ≤ s.size := by
  obtain ⟨pre, post, e, hp⟩ := h.at_
  have := congrArg List.length e
  have hl := h.len
  simp at this
  omega

theorem NumAt.digits {s : ByteArray} {k : Nat} {ds : List UInt8} (h : NumAt s k ds) : ∃ post, s.data.toList.drop k = 92 :: 117 :: (ds ++ post) := by
  obtain ⟨pre, post, e, hp⟩ := h.at_
  refine ⟨post, ?_⟩
  rw [e, List.append_assoc, List.drop_append_of_le_length (by omega), List.drop_eq_nil_of_le (by omega)]
  rfl

theorem get_of {s : ByteArray} {k : Nat} {c : UInt8} {r : List UInt8} (h : s.data.toList.drop k = c :: r) (hk : k < s.size) : s[k]'hk = c := by
  have hl : k < s.data.toList.length := by simpa using hk
  have : s[k]'hk = s.data.toList[k]'hl := rfl
  rw [this]
  rw [List.drop_eq_getElem_cons hl] at h
  exact (List.cons.inj h).1
theorem drop_next {s : ByteArray} {k : Nat} {c : UInt8} {r : List UInt8} (h : s.data.toList.drop k = c :: r) : s.data.toList.drop (k + 1) = r := by
  rw [← List.drop_drop, h]; rfl
end Go.Proofs.Ytaflpeajapdkdaa
