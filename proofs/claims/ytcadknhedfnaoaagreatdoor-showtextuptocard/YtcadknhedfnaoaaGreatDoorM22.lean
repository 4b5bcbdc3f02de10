import Derived.Test.YtcadknhedfnaoaaGreatDoorM8
import Derived.Test.YtcadknhedfnaoaaGreatDoorM21
namespace Go.Proofs.YtcadknhedfnaoaaGreatDoor
open Go.RowKit Go.Shelf
set_option linter.unusedVariables false
set_option linter.unusedSimpArgs false

theorem setN_os (w : World) (a : Addr) (v : Value) : (w.setCell a v).os = w.os := rfl
theorem setN_tape (w : World) (a : Addr) (v : Value) : (w.setCell a v).tape = w.tape := rfl
theorem setN_output (w : World) (a : Addr) (v : Value) : (w.setCell a v).output = w.output := rfl
theorem setN_size (w : World) (a : Addr) (v : Value) : (w.setCell a v).heap.size = w.heap.size := by simp
theorem rsetN {u : World} {B i : Nat} {c : Array Value} {t : TypeId} (v : Value) (h : u.heap[B]? = some (.cells c t (0, 0))) : (u.setCell ⟨B, i, none⟩ v).heap[B]? = some (.cells (c.setIfInBounds i v) t (0, 0)) := heap_setCell_same u B i c t v h
/-- how a world lies behind stores into one box -/
structure Put (B : Nat) (o : Obj) (w w' : World) : Prop where
  new : w'.heap[B]? = some o
  rest : ∀ b, b ≠ B → w'.heap[b]? = w.heap[b]?
  size : w'.heap.size = w.heap.size
  os : w'.os = w.os
  tape : w'.tape = w.tape
  output : w'.output = w.output
theorem Put.below {B n : Nat} {o : Obj} {w w' : World} (h : Put B o w w') (hn : n ≤ B) : Below n w w' := ⟨h.os, h.tape, h.output, by rw [h.size]; exact Nat.le_refl _, fun k hk => h.rest k (by omega)⟩
theorem Put.bt {B I : Nat} {o : Obj} {w a w' : World} (h : Put B o a w') (hb : Bt I w a) (hn : w.heap.size ≤ B) : Bt I w w' := hb.step hn (h.below (Nat.le_refl _))
theorem nd_cells {w : World} {B : Nat} {t : TypeId} {y0 y1 y2 y3 y4 y5 y6 y7 y8 y9 : Value} (h : w.heap[B]? = some (.cells #[y0, y1, y2, y3, y4, y5, y6, y7, y8, y9] t (0, 0))) :
    w.cell? ⟨B, 0, none⟩ = some y0 ∧ w.cell? ⟨B, 1, none⟩ = some y1 ∧ w.cell? ⟨B, 2, none⟩ = some y2 ∧ w.cell? ⟨B, 3, none⟩ = some y3 ∧ w.cell? ⟨B, 4, none⟩ = some y4 ∧ w.cell? ⟨B, 5, none⟩ = some y5 ∧ w.cell? ⟨B, 6, none⟩ = some y6 ∧ w.cell? ⟨B, 7, none⟩ = some y7 ∧ w.cell? ⟨B, 8, none⟩ = some y8 ∧ w.cell? ⟨B, 9, none⟩ = some y9 := by
  refine ⟨?_, ?_, ?_, ?_, ?_, ?_, ?_, ?_, ?_, ?_⟩ <;> rw [cell_of_row _ _ _ _ _ _ h] <;> rfl
theorem nd_frozen {w : World} {B : Nat} {t : TypeId} {cs : Array Value} (h : w.heap[B]? = some (.cells cs t (0, 0))) :
    w.frozen? ⟨B, 0, none⟩ = false ∧ w.frozen? ⟨B, 1, none⟩ = false ∧ w.frozen? ⟨B, 2, none⟩ = false ∧ w.frozen? ⟨B, 3, none⟩ = false ∧ w.frozen? ⟨B, 4, none⟩ = false ∧ w.frozen? ⟨B, 5, none⟩ = false ∧ w.frozen? ⟨B, 6, none⟩ = false ∧ w.frozen? ⟨B, 7, none⟩ = false ∧ w.frozen? ⟨B, 8, none⟩ = false ∧ w.frozen? ⟨B, 9, none⟩ = false := ⟨frozen_rowT h, frozen_rowT h, frozen_rowT h, frozen_rowT h, frozen_rowT h, frozen_rowT h, frozen_rowT h, frozen_rowT h, frozen_rowT h, frozen_rowT h⟩
theorem nd_set {w : World} {B : Nat} {t : TypeId} {y0 y1 y2 y3 y4 y5 y6 y7 y8 y9 a0 a1 a2 a3 a4 a5 a6 a7 a8 a9 : Value} (h : w.heap[B]? = some (.cells #[y0, y1, y2, y3, y4, y5, y6, y7, y8, y9] t (0, 0))) {wz : World} (hz : (((((((((w.setCell ⟨B, 0, none⟩ a0).setCell ⟨B, 1, none⟩ a1).setCell ⟨B, 2, none⟩ a2).setCell ⟨B, 3, none⟩ a3).setCell ⟨B, 4, none⟩ a4).setCell ⟨B, 5, none⟩ a5).setCell ⟨B, 6, none⟩ a6).setCell ⟨B, 7, none⟩ a7).setCell ⟨B, 8, none⟩ a8).setCell ⟨B, 9, none⟩ a9 = wz) :
    Put B (.cells #[a0, a1, a2, a3, a4, a5, a6, a7, a8, a9] t (0, 0)) w wz := by
  subst hz
  have h0 := rsetN (i := 0) a0 h
  simp only [List.setIfInBounds_toArray, List.set_cons_zero, List.set_cons_succ] at h0
  have h1 := rsetN (i := 1) a1 h0
  simp only [List.setIfInBounds_toArray, List.set_cons_zero, List.set_cons_succ] at h1
  have h2 := rsetN (i := 2) a2 h1
  simp only [List.setIfInBounds_toArray, List.set_cons_zero, List.set_cons_succ] at h2
  have h3 := rsetN (i := 3) a3 h2
  simp only [List.setIfInBounds_toArray, List.set_cons_zero, List.set_cons_succ] at h3
  have h4 := rsetN (i := 4) a4 h3
  simp only [List.setIfInBounds_toArray, List.set_cons_zero, List.set_cons_succ] at h4
  have h5 := rsetN (i := 5) a5 h4
  simp only [List.setIfInBounds_toArray, List.set_cons_zero, List.set_cons_succ] at h5
  have h6 := rsetN (i := 6) a6 h5
  simp only [List.setIfInBounds_toArray, List.set_cons_zero, List.set_cons_succ] at h6
  have h7 := rsetN (i := 7) a7 h6
  simp only [List.setIfInBounds_toArray, List.set_cons_zero, List.set_cons_succ] at h7
  have h8 := rsetN (i := 8) a8 h7
  simp only [List.setIfInBounds_toArray, List.set_cons_zero, List.set_cons_succ] at h8
  have h9 := rsetN (i := 9) a9 h8
  simp only [List.setIfInBounds_toArray, List.set_cons_zero, List.set_cons_succ] at h9
  refine ⟨h9, fun b hb => ?_, by simp only [setN_size], by simp only [setN_os], by simp only [setN_tape], by simp only [setN_output]⟩
  rw [Below.heap_setCell _ _ _ _ hb, Below.heap_setCell _ _ _ _ hb, Below.heap_setCell _ _ _ _ hb, Below.heap_setCell _ _ _ _ hb, Below.heap_setCell _ _ _ _ hb, Below.heap_setCell _ _ _ _ hb, Below.heap_setCell _ _ _ _ hb, Below.heap_setCell _ _ _ _ hb, Below.heap_setCell _ _ _ _ hb, Below.heap_setCell _ _ _ _ hb]
theorem nd_set9 {w : World} {B : Nat} {t : TypeId} {y0 y1 y2 y3 y4 y5 y6 y7 y8 y9 a9 : Value} (h : w.heap[B]? = some (.cells #[y0, y1, y2, y3, y4, y5, y6, y7, y8, y9] t (0, 0))) {wz : World} (hz : w.setCell ⟨B, 9, none⟩ a9 = wz) :
    Put B (.cells #[y0, y1, y2, y3, y4, y5, y6, y7, y8, a9] t (0, 0)) w wz := by
  subst hz
  have h9 := rsetN (i := 9) a9 h
  simp only [List.setIfInBounds_toArray, List.set_cons_zero, List.set_cons_succ] at h9
  exact ⟨h9, fun b hb => Below.heap_setCell _ _ _ _ hb, by simp, rfl, rfl, rfl⟩
theorem tk_set {w : World} {B : Nat} {t : TypeId} {y0 y1 y2 y3 a0 a1 a2 a3 : Value} (h : w.heap[B]? = some (.cells #[y0, y1, y2, y3] t (0, 0))) {wz : World} (hz : (((w.setCell ⟨B, 0, none⟩ a0).setCell ⟨B, 1, none⟩ a1).setCell ⟨B, 2, none⟩ a2).setCell ⟨B, 3, none⟩ a3 = wz) :
    Put B (.cells #[a0, a1, a2, a3] t (0, 0)) w wz := by
  subst hz
  have h0 := rsetN (i := 0) a0 h
  simp only [List.setIfInBounds_toArray, List.set_cons_zero, List.set_cons_succ] at h0
  have h1 := rsetN (i := 1) a1 h0
  simp only [List.setIfInBounds_toArray, List.set_cons_zero, List.set_cons_succ] at h1
  have h2 := rsetN (i := 2) a2 h1
  simp only [List.setIfInBounds_toArray, List.set_cons_zero, List.set_cons_succ] at h2
  have h3 := rsetN (i := 3) a3 h2
  simp only [List.setIfInBounds_toArray, List.set_cons_zero, List.set_cons_succ] at h3
  refine ⟨h3, fun b hb => ?_, by simp only [setN_size], by simp only [setN_os], by simp only [setN_tape], by simp only [setN_output]⟩
  rw [Below.heap_setCell _ _ _ _ hb, Below.heap_setCell _ _ _ _ hb, Below.heap_setCell _ _ _ _ hb, Below.heap_setCell _ _ _ _ hb]
theorem fb_set {w : World} {B : Nat} {t : TypeId} {y0 y1 a0 a1 : Value} (h : w.heap[B]? = some (.cells #[y0, y1] t (0, 0))) {wz : World} (hz : (w.setCell ⟨B, 0, none⟩ a0).setCell ⟨B, 1, none⟩ a1 = wz) :
    Put B (.cells #[a0, a1] t (0, 0)) w wz := by
  subst hz
  have h0 := rsetN (i := 0) a0 h
  simp only [List.setIfInBounds_toArray, List.set_cons_zero, List.set_cons_succ] at h0
  have h1 := rsetN (i := 1) a1 h0
  simp only [List.setIfInBounds_toArray, List.set_cons_zero, List.set_cons_succ] at h1
  refine ⟨h1, fun b hb => ?_, by simp only [setN_size], by simp only [setN_os], by simp only [setN_tape], by simp only [setN_output]⟩
  rw [Below.heap_setCell _ _ _ _ hb, Below.heap_setCell _ _ _ _ hb]
theorem fb_cells {w : World} {B : Nat} {t : TypeId} {y0 y1 : Value} (h : w.heap[B]? = some (.cells #[y0, y1] t (0, 0))) :
    w.cell? ⟨B, 0, none⟩ = some y0 ∧ w.cell? ⟨B, 1, none⟩ = some y1 ∧ w.frozen? ⟨B, 0, none⟩ = false ∧ w.frozen? ⟨B, 1, none⟩ = false := by
  refine ⟨?_, ?_, frozen_rowT h, frozen_rowT h⟩ <;> rw [cell_of_row _ _ _ _ _ _ h] <;> rfl
end Go.Proofs.YtcadknhedfnaoaaGreatDoor
