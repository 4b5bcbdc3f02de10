import Derived.Test.YtohclfgghobldaaGreatDoorM19
namespace Go.Proofs.YtohclfgghobldaaGreatDoor
open Go.RowKit
set_option linter.unusedVariables false
set_option linter.unusedSimpArgs false

def tbox0 : Obj := .cells #[.int .i64 0, .int .i64 0, .int .i64 0, .string ⟨#[]⟩] 54
theorem tbox1 {w w1 : World} (hb : Below (w.alloc tbox0).heap.size (w.alloc tbox0) w1) : w1.heap[w.heap.size]? = some (.cells #[.int .i64 0, .int .i64 0, .int .i64 0, .string ⟨#[]⟩] 54 (0, 0)) ∧ Below w.heap.size w w1 :=
  ⟨heap_lowT hb (by simp) (heap_alloc_new w _), (below1 w tbox0).trans (hb.mono (by simp))⟩
theorem tbox_cells {w : World} {B : Nat} {t : TypeId} {y0 y1 y2 y3 : Value} (h : w.heap[B]? = some (.cells #[y0, y1, y2, y3] t (0, 0))) :
    w.cell? ⟨B, 0, none⟩ = some y0 ∧ w.cell? ⟨B, 1, none⟩ = some y1 ∧ w.cell? ⟨B, 2, none⟩ = some y2 ∧ w.cell? ⟨B, 3, none⟩ = some y3 ∧ w.frozen? ⟨B, 0, none⟩ = false ∧ w.frozen? ⟨B, 1, none⟩ = false ∧ w.frozen? ⟨B, 2, none⟩ = false ∧ w.frozen? ⟨B, 3, none⟩ = false := by
  refine ⟨?_, ?_, ?_, ?_, frozen_rowT h, frozen_rowT h, frozen_rowT h, frozen_rowT h⟩ <;> rw [cell_of_row _ _ _ _ _ _ h] <;> rfl

theorem cut_size {s : ByteArray} {a b : Nat} (h : a ≤ b) (hb : b ≤ s.size) : (cut s.data.toList a b).length = b - a := by
  unfold cut; rw [List.length_take, List.length_drop, size_lst]; omega
theorem ext_eq (s : ByteArray) (a b : Nat) : s.extract a b = ⟨(cut s.data.toList a b).toArray⟩ := by
  have := extract_lst s a b
  apply ByteArray.ext
  apply Array.toList_inj.1
  rw [Lib.extract_data]; rfl
def bWd : ByteArray := ⟨#[97, 98, 99, 100, 101, 102, 103, 104, 105, 106, 107, 108, 109, 110, 111, 112, 113, 114, 115, 116, 117, 118, 119, 120, 121, 122, 65, 66, 67, 68, 69, 70, 71, 72, 73, 74, 75, 76, 77, 78, 79, 80, 81, 82, 83, 84, 85, 86, 87, 88, 89, 90, 95, 48, 49, 50, 51, 52, 53, 54, 55, 56, 57]⟩
def bNm : ByteArray := ⟨#[97, 98, 99, 100, 101, 102, 103, 104, 105, 106, 107, 108, 109, 110, 111, 112, 113, 114, 115, 116, 117, 118, 119, 120, 121, 122, 65, 66, 67, 68, 69, 70, 71, 72, 73, 74, 75, 76, 77, 78, 79, 80, 81, 82, 83, 84, 85, 86, 87, 88, 89, 90, 95, 48, 49, 50, 51, 52, 53, 54, 55, 56, 57, 43, 45, 46]⟩
end Go.Proofs.YtohclfgghobldaaGreatDoor
