import Derived.Test.YtaflpeajapdkdaaM14
import Derived.Test.YtaflpeajapdkdaaM16
import Derived.Test.YtaflpeajapdkdaaM17
import Derived.Deep.RegionHeld3
namespace Go.Proofs.Ytaflpeajapdkdaa
open Go.RowKit
set_option linter.unusedVariables false
set_option linter.unusedSimpArgs false

theorem listC_step {α : Type} {c : α → α → Int} {xs ys : List α} {k : Nat} (h1 : k < xs.length) (h2 : k < ys.length) :
    listC c (xs.drop k) (ys.drop k) = if c xs[k] ys[k] = 0 then listC c (xs.drop (k + 1)) (ys.drop (k + 1)) else c xs[k] ys[k] := by
  rw [List.drop_eq_getElem_cons h1, List.drop_eq_getElem_cons h2]; rfl
theorem listC_more {α : Type} {c : α → α → Int} {xs ys : List α} {k : Nat} (h1 : k < xs.length) (h2 : ys.length ≤ k) : listC c (xs.drop k) (ys.drop k) = 1 := by
  rw [List.drop_eq_getElem_cons h1, List.drop_eq_nil_of_le h2]; rfl
theorem listC_less {α : Type} {c : α → α → Int} {xs ys : List α} {k : Nat} (h1 : xs.length ≤ k) (h2 : k < ys.length) : listC c (xs.drop k) (ys.drop k) = -1 := by
  rw [List.drop_eq_getElem_cons h2, List.drop_eq_nil_of_le h1]; rfl
theorem listC_even {α : Type} {c : α → α → Int} {xs ys : List α} {k : Nat} (h1 : xs.length ≤ k) (h2 : ys.length ≤ k) : listC c (xs.drop k) (ys.drop k) = 0 := by
  rw [List.drop_eq_nil_of_le h1, List.drop_eq_nil_of_le h2]; rfl
theorem below2 (w : World) (o1 o2 : Obj) : Below w.heap.size w ((w.alloc o1).alloc o2) := ((Below.refl _ _).alloc (Nat.le_refl _) _).alloc (by simp) _
theorem getD_key {l : List ByteArray} {k : Nat} (h : k < l.length) : l.getD k ByteArray.empty = l[k] := by simp [List.getD, h]
end Go.Proofs.Ytaflpeajapdkdaa
