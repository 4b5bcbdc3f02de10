import Derived.Test.YtdjleoglphgdgaaGreatDoorM35
import Derived.ArgAppend
namespace Go.Proofs.YtdjleoglphgdgaaGreatDoor
open Go.RowKit Go.Shelf
set_option linter.unusedVariables false
set_option linter.unusedSimpArgs false
attribute [local go_sem] Oper.semAt_some

/-- a part that waits for its last kid, with one kid -/
structure Wt1 (w : World) (gw g : Nat) (a : Int) (d1 : ND) : Prop where
  wl : gw < w.heap.size
  cells : w.cell? ⟨gw, 0, none⟩ = some (.int .i64 12) ∧ w.cell? ⟨gw, 1, none⟩ = some (.int .i64 a) ∧ w.cell? ⟨gw, 2, none⟩ = some (.string ⟨#[]⟩) ∧ w.cell? ⟨gw, 3, none⟩ = some (.int .i64 0) ∧ w.cell? ⟨gw, 4, none⟩ = some (.string ⟨#[]⟩) ∧ w.cell? ⟨gw, 5, none⟩ = some (.string ⟨#[]⟩) ∧ w.cell? ⟨gw, 6, none⟩ = some (.slice none 0 0) ∧ w.cell? ⟨gw, 7, none⟩ = some (.slice none 0 0) ∧ w.cell? ⟨gw, 8, none⟩ = some (.slice none 0 0) ∧ w.cell? ⟨gw, 9, none⟩ = some (.slice (some ⟨g, 0, none⟩) 1 1)
  kid : w.heap[g]? = some (.cells d1.c 28 (0, 0))
theorem Wt1.keep {w w' : World} {gw g : Nat} {a : Int} {d1 : ND} (h : Wt1 w gw g a d1) (hb : Below w.heap.size w w') : Wt1 w' gw g a d1 := by
  obtain ⟨h1, ⟨c0, c1, c2, c3, c4, c5, c6, c7, c8, c9⟩, h3⟩ := h
  have cc : ∀ o u, w.cell? ⟨gw, o, none⟩ = some u → w'.cell? ⟨gw, o, none⟩ = some u := fun o u h3 => (World.cell?_of_block (a := ⟨gw, o, none⟩) (hb.block _ h1)).trans h3
  exact ⟨Nat.lt_of_lt_of_le h1 hb.size, ⟨cc _ _ c0, cc _ _ c1, cc _ _ c2, cc _ _ c3, cc _ _ c4, cc _ _ c5, cc _ _ c6, cc _ _ c7, cc _ _ c8, cc _ _ c9⟩, (hb.block g (Array.getElem?_eq_some_iff.1 h3).1).trans h3⟩

end Go.Proofs.YtdjleoglphgdgaaGreatDoor
namespace Go.Proofs.YtdjleoglphgdgaaGreatDoor
open Go.RowKit Go.Shelf
set_option linter.unusedVariables false
set_option linter.unusedSimpArgs false
attribute [local go_sem] Oper.semAt_some

end Go.Proofs.YtdjleoglphgdgaaGreatDoor
