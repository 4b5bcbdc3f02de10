import Derived.Test.YtohclfgghobldaaD1
namespace Go.Proofs.Ytohclfgghobldaa
open Go.RowKit
set_option linter.unusedVariables false
set_option linter.unusedSimpArgs false

theorem size_lst (s : ByteArray) : s.data.toList.length = s.size := by rw [Array.length_toList]; rfl
theorem extract_lst (s : ByteArray) (a b : Nat) (hb : b ≤ s.size) : (s.extract a b).data.toList = cut s.data.toList a b := by
  rw [Lib.extract_data]; rfl
theorem getD_byte {s : ByteArray} {p : Nat} (h : p < s.size) : s.data.toList.getD p 0 = s[p] := by
  have h1 : p < s.data.toList.length := by rw [size_lst]; exact h
  rw [List.getD, List.getElem?_eq_getElem h1]
  rfl
end Go.Proofs.Ytohclfgghobldaa
