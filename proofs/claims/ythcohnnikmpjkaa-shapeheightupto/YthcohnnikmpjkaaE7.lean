import Derived.Test.YthcohnnikmpjkaaE6
namespace Go.Proofs.Ythcohnnikmpjkaa
open Go.RowKit
set_option linter.unusedVariables false
set_option linter.unusedSimpArgs false

theorem all_up {ts : List VT} {f : VT → Bool} {k : Nat} (hk : k < ts.length) : (ts.take (k + 1)).all f = ((ts.take k).all f && f ts[k]) := by
  rw [List.take_succ_eq_append_getElem hk, List.all_append]; simp
theorem all_no {ts : List VT} {f : VT → Bool} {k : Nat} (hk : k < ts.length) (h : f ts[k] = false) : ts.all f = false := by
  rw [List.all_eq_false]; exact ⟨ts[k], List.getElem_mem hk, by simp [h]⟩
end Go.Proofs.Ythcohnnikmpjkaa
