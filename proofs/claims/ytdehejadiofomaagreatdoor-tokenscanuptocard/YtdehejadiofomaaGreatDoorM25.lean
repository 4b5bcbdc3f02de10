import Derived.Test.YtdehejadiofomaaGreatDoorM21
namespace Go.Proofs.YtdehejadiofomaaGreatDoor
open Go.RowKit Go.Shelf
set_option linter.unusedVariables false
set_option linter.unusedSimpArgs false
attribute [local go_sem] Oper.semAt_some

def natI (xs : List Nat) : List Int := xs.map fun (q : Nat) => (q : Int)
theorem natI_snoc (xs : List Nat) (x : Nat) : ivals .i64 (natI xs) ++ [.int .i64 (x : Int)] = ivals .i64 (natI (xs ++ [x])) := by simp [ivals, natI]

/-- what has been collected -/
def ColI (w : World) (B : Nat) (pre : List Nat) (W : World) : Prop :=
  (∃ v, Boxed W B 83 v ∧ W.ownsRow w.heap.size 3 1 v pre.length (ivals .i64 (natI pre)) ∧ (v = .slice none 0 0 ↔ pre = [])) ∧ Below w.heap.size w W

theorem kpB_app {W w1 : World} {n₀ B : Nat} {t e : TypeId} {size : Nat} {v v' : Value} {k m : Nat} {xs ys : List Value} {tmp : Obj}
    (hv : Boxed W B t v) (hte : t ≠ e) (hrow : W.ownsRow n₀ e size v k xs) (hown' : w1.ownsRow n₀ e size v' m ys) (hgrow : (W.alloc tmp).grownBy w1 v.ownBlock) (hat : v'.ownBlock = v.ownBlock ∨ v'.ownBlock = some (W.alloc tmp).heap.size) (hv1 : Boxed w1 B t v) :
    KpB (fun b => b = B) B W (w1.setCell ⟨B, 0, none⟩ v') := by
  have hsz := hgrow.size
  simp at hsz
  have hr0 : rowAt W B = v.ownBlock := by unfold rowAt; rw [hv.cell]; rfl
  have hr1 : rowAt (w1.setCell ⟨B, 0, none⟩ v') B = v'.ownBlock := by unfold rowAt; rw [(hv1.set v').cell]; rfl
  refine ⟨by simp; omega, fun b o hb hr ho hc => ?_, ?_⟩
  · rw [Below.heap_setCell _ _ _ _ hb]
    have hlt := (Array.getElem?_eq_some_iff.1 ho).1
    rw [hgrow.block b (by simp; omega) (by rw [← hr0]; exact Ne.symm hr), Below.heap_alloc _ _ _ hlt]
    exact ho
  · rw [hr1, hr0]
    rcases hat with h | h
    · exact .inl h
    · exact .inr ⟨_, h, by simp⟩
end Go.Proofs.YtdehejadiofomaaGreatDoor
