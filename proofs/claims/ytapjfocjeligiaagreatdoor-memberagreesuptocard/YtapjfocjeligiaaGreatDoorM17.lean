import Derived.Test.YtapjfocjeligiaaGreatDoorM14
import Derived.Test.YtapjfocjeligiaaGreatDoorM10
import Derived.Test.YtapjfocjeligiaaGreatDoorM16
namespace Go.Proofs.YtapjfocjeligiaaGreatDoor
open Go.RowKit Go.Shelf
set_option linter.unusedVariables false
set_option linter.unusedSimpArgs false
attribute [local go_sem] Oper.semAt_some

/-- how many parts -/
def sumL : List Nat → Nat
  | [] => 0
  | x :: r => x + sumL r
theorem sumL_append (a b : List Nat) : sumL (a ++ b) = sumL a + sumL b := by
  induction a with
  | nil => simp [sumL]
  | cons x r ih => simp [sumL, ih, Nat.add_assoc]
theorem sumL_mem {x : Nat} : ∀ {l : List Nat}, x ∈ l → x ≤ sumL l
  | a :: r, h => by
    simp only [sumL]
    rcases List.mem_cons.1 h with rfl | h
    · omega
    · have := sumL_mem h; omega
def szN : Nat → VT → Nat
  | 0, _ => 0
  | h + 1, T => 1 + T.keys.length + sumL (T.items.map (szN h))
theorem szN_item {h : Nat} {T : VT} {i : Nat} (hi : i < T.items.length) : szN h T.items[i] + 1 ≤ szN (h + 1) T := by
  have := sumL_mem (List.mem_map.2 ⟨_, List.getElem_mem hi, rfl⟩ : szN h T.items[i] ∈ T.items.map (szN h))
  show _ ≤ 1 + T.keys.length + sumL _
  omega
/-- depth -/
def mxL : List Nat → Nat
  | [] => 0
  | x :: r => max x (mxL r)
theorem mxL_append (a b : List Nat) : mxL (a ++ b) = max (mxL a) (mxL b) := by
  induction a with
  | nil => simp [mxL]
  | cons x r ih => simp [mxL, ih, Nat.max_assoc]
def dpN : Nat → VT → Nat
  | 0, _ => 0
  | h + 1, T => if T.kind = 5 ∨ T.kind = 6 then 1 + mxL (T.items.map (dpN h)) else 0
theorem mxL_le {f g : VT → Nat} : ∀ (l : List VT), (∀ t ∈ l, f t ≤ g t) → mxL (l.map f) ≤ sumL (l.map g)
  | [], _ => Nat.le_refl _
  | t :: r, h => by
    have h1 := h t (List.mem_cons_self ..)
    have h2 := mxL_le r (fun x hx => h x (List.mem_cons_of_mem _ hx))
    simp only [List.map_cons, mxL, sumL]
    omega
theorem dpN_le : ∀ (h : Nat) (T : VT), dpN h T ≤ szN h T
  | 0, _ => Nat.le_refl _
  | h + 1, T => by
    have := mxL_le T.items (f := dpN h) (g := szN h) (fun t _ => dpN_le h t)
    show (if T.kind = 5 ∨ T.kind = 6 then 1 + mxL (T.items.map (dpN h)) else 0) ≤ 1 + T.keys.length + sumL _
    split <;> omega

/-- the item's own box -/
structure IBox (W : World) (Bx : Nat) (c : Fin 5 → Value) : Prop where
  row : W.heap[Bx]? = some (.cells #[c 0, c 1, c 2, c 3, c 4] 37 (0, 0))
theorem IBox.cell {W : World} {Bx : Nat} {c : Fin 5 → Value} (h : IBox W Bx c) : W.cell? ⟨Bx, 0, none⟩ = some (c 0) ∧ W.cell? ⟨Bx, 1, none⟩ = some (c 1) ∧ W.cell? ⟨Bx, 2, none⟩ = some (c 2) ∧ W.cell? ⟨Bx, 3, none⟩ = some (c 3) ∧ W.cell? ⟨Bx, 4, none⟩ = some (c 4) :=
  ⟨cell_of_row _ _ 0 _ _ _ h.row, cell_of_row _ _ 1 _ _ _ h.row, cell_of_row _ _ 2 _ _ _ h.row, cell_of_row _ _ 3 _ _ _ h.row, cell_of_row _ _ 4 _ _ _ h.row⟩
theorem ibox_own (m : Nat) (Bx : Nat) (c : Fin 5 → Value) : OwnFrom m (fun (_ : Unit) W => IBox W Bx c) := by
  intro _ A B row h hg hr
  refine ⟨?_⟩
  rw [hg.block Bx (Array.getElem?_eq_some_iff.1 h.row).1 ?_]
  · exact h.row
  · intro e
    obtain ⟨_, o, ho, hc⟩ := hr Bx e.symm
    rw [h.row] at ho
    cases ho
    simp [Obj.isCells] at hc
end Go.Proofs.YtapjfocjeligiaaGreatDoor
