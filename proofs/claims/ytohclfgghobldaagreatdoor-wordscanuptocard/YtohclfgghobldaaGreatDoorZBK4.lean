import Derived.Test.YtohclfgghobldaaGreatDoorZBK2
import Derived.Test.YtohclfgghobldaaGreatDoorZBK3
namespace Go.Proofs.YtohclfgghobldaaGreatDoor
open Go.RowKit Go.Shelf
set_option linter.unusedVariables false
set_option linter.unusedSimpArgs false
attribute [local go_sem] Oper.semAt_some

theorem BkAt.cells {W : World} {gb : Nat} {v : Value} (h : BkAt W gb v) : W.cell? ⟨gb, 5, none⟩ = some v ∧ ∀ j, j < 16 → j ≠ 5 → W.cell? ⟨gb, j, none⟩ = some (.slice none 0 0) := by
  refine ⟨by rw [cell_of_row _ _ 5 _ _ _ h]; rfl, fun j hj h5 => ?_⟩
  rw [cell_of_row _ _ j _ _ _ h]
  rcases (show j = 0 ∨ j = 1 ∨ j = 2 ∨ j = 3 ∨ j = 4 ∨ j = 6 ∨ j = 7 ∨ j = 8 ∨ j = 9 ∨ j = 10 ∨ j = 11 ∨ j = 12 ∨ j = 13 ∨ j = 14 ∨ j = 15 by omega) with rfl | rfl | rfl | rfl | rfl | rfl | rfl | rfl | rfl | rfl | rfl | rfl | rfl | rfl | rfl <;> rfl

set_option maxRecDepth 100000 in
set_option maxHeartbeats 3200000 in
theorem w_bApart (B gb : Nat) (v : Value) (W : World) (hbk : BkAt W gb v)
    (hT : Calls Tryz.prog 23 #[v] W fun e W' => e = .returned (.bool true) ∧ BkAt W' gb v ∧ Below B W W') :
    Calls Tryz.prog 8 #[.pointer (some ⟨gb, 0, none⟩)] W fun e W' => e = .returned (.bool true) ∧ Below B W W' := by
  have HT := Hid.mk hT
  have c0 := hbk.cells.2 0 (by decide) (by decide)
  have c1 := hbk.cells.2 1 (by decide) (by decide)
  have c2 := hbk.cells.2 2 (by decide) (by decide)
  have c3 := hbk.cells.2 3 (by decide) (by decide)
  have c4 := hbk.cells.2 4 (by decide) (by decide)
  have c6 := hbk.cells.2 6 (by decide) (by decide)
  have c7 := hbk.cells.2 7 (by decide) (by decide)
  have c8 := hbk.cells.2 8 (by decide) (by decide)
  have c9 := hbk.cells.2 9 (by decide) (by decide)
  have c10 := hbk.cells.2 10 (by decide) (by decide)
  have c11 := hbk.cells.2 11 (by decide) (by decide)
  have c12 := hbk.cells.2 12 (by decide) (by decide)
  have c13 := hbk.cells.2 13 (by decide) (by decide)
  have c14 := hbk.cells.2 14 (by decide) (by decide)
  have c15 := hbk.cells.2 15 (by decide) (by decide)
  have c5 := hbk.cells.1
  clear hbk hT
  go_enter Tryz.func8, Tryz.ntmps8
  go_wp2_with fail
  refine (w_apartStrings0 W).mono ?_
  rintro e u ⟨rfl, hu⟩
  rw [hu]
  clear hu
  go_wp2_with fail
  refine (w_apartBools0 W).mono ?_
  rintro e u ⟨rfl, hu⟩
  rw [hu]
  clear hu
  go_wp2_with fail
  refine (w_apartInts0 W).mono ?_
  rintro e u ⟨rfl, hu⟩
  rw [hu]
  clear hu
  go_wp2_with fail
  refine (w_apartBytes0 W).mono ?_
  rintro e u ⟨rfl, hu⟩
  rw [hu]
  clear hu
  go_wp2_with fail
  refine (w_apartValues0 W).mono ?_
  rintro e u ⟨rfl, hu⟩
  rw [hu]
  clear hu
  go_wp2_with fail
  refine HT.out.mono ?_
  rintro e w1 ⟨rfl, hbk1, hb1⟩
  have HB := Hid.mk hb1
  clear hb1 c0 c1 c2 c3 c4 c5 c6 c7 c8 c9 c10 c11 c12 c13 c14 c15
  have d6 := hbk1.cells.2 6 (by decide) (by decide)
  have d7 := hbk1.cells.2 7 (by decide) (by decide)
  have d8 := hbk1.cells.2 8 (by decide) (by decide)
  have d9 := hbk1.cells.2 9 (by decide) (by decide)
  have d10 := hbk1.cells.2 10 (by decide) (by decide)
  have d11 := hbk1.cells.2 11 (by decide) (by decide)
  have d12 := hbk1.cells.2 12 (by decide) (by decide)
  have d13 := hbk1.cells.2 13 (by decide) (by decide)
  have d14 := hbk1.cells.2 14 (by decide) (by decide)
  have d15 := hbk1.cells.2 15 (by decide) (by decide)
  clear hbk1
  go_wp2_with fail
  refine (w_apartSpans0 w1).mono ?_
  rintro e u ⟨rfl, hu⟩
  rw [hu]
  clear hu
  go_wp2_with fail
  refine (w_apartArrs0 w1).mono ?_
  rintro e u ⟨rfl, hu⟩
  rw [hu]
  clear hu
  go_wp2_with fail
  refine (w_apartObjs0 w1).mono ?_
  rintro e u ⟨rfl, hu⟩
  rw [hu]
  clear hu
  go_wp2_with fail
  refine (w_apartTypes0 w1).mono ?_
  rintro e u ⟨rfl, hu⟩
  rw [hu]
  clear hu
  go_wp2_with fail
  refine (w_apartNodes0 w1).mono ?_
  rintro e u ⟨rfl, hu⟩
  rw [hu]
  clear hu
  go_wp2_with fail
  refine (w_apartResults0 w1).mono ?_
  rintro e u ⟨rfl, hu⟩
  rw [hu]
  clear hu
  go_wp2_with fail
  refine (w_apartTypeds0 w1).mono ?_
  rintro e u ⟨rfl, hu⟩
  rw [hu]
  clear hu
  go_wp2_with fail
  refine (w_apartCodes0 w1).mono ?_
  rintro e u ⟨rfl, hu⟩
  rw [hu]
  clear hu
  go_wp2_with fail
  refine (w_apartReasons0 w1).mono ?_
  rintro e u ⟨rfl, hu⟩
  rw [hu]
  clear hu
  go_wp2_with fail
  refine (w_apartVerdicts0 w1).mono ?_
  rintro e u ⟨rfl, hu⟩
  rw [hu]
  clear hu
  go_wp2_with fail
  go_ret
  exact ⟨rfl, HB.out⟩
end Go.Proofs.YtohclfgghobldaaGreatDoor
