import Derived.Test.YtgnaeddpdomgkabDoorTen23
namespace Go.Proofs.YtgnaeddpdomgkabDoor
open Go.RowKit
set_option linter.unusedVariables false
set_option linter.unusedSimpArgs false

set_option maxRecDepth 100000 in
set_option maxHeartbeats 800000 in
theorem w_tread_not (s : ByteArray) (w : World) (hs : s.size ≤ maxLen) (hf : Pl.formed s.data.toList = false) :
    Calls Tryd.prog 25 #[.string s] w fun e w' => e = .returned (.tuple #[.agg #[.bool false, .slice none 0 0], .bool false]) ∧ Below w.heap.size w w' := by
  have HC := Hid.mk (fun (u : World) => w_Formed s u hs)
  have HF := Hid.mk hf
  unfold maxLen at hs
  go_enter Tryd.func25, Tryd.ntmps25
  go_wp2_with fail
  refine (HC.out _).mono ?_
  rintro e w1 ⟨rfl, hb1⟩
  rw [HF.out]
  have HB := Hid.mk hb1
  have c0 : w1.cell? ⟨w.heap.size, 0, none⟩ = some (.bool false) := below_cells hb1 (by simp) (by simp)
  have c1 : w1.cell? ⟨w.heap.size, 1, none⟩ = some (.slice none 0 0) := below_cells hb1 (by simp) (by simp)
  have f0 : w1.frozen? ⟨w.heap.size, 0, none⟩ = false := below_frees hb1 (by simp) (by simp)
  have f1 : w1.frozen? ⟨w.heap.size, 1, none⟩ = false := below_frees hb1 (by simp) (by simp)
  clear hb1 hf
  go_wp2_with fail
  have d1 : (w1.setCell ⟨w.heap.size, 0, none⟩ (.bool false)).cell? ⟨w.heap.size, 1, none⟩ = some (.slice none 0 0) := by
    rw [World.cell?_setCell_other _ _ _ _ (by simp)]; exact c1
  have r1 := World.cell?_setCell_same _ _ (.slice none 0 0) d1
  have r0 : ((w1.setCell ⟨w.heap.size, 0, none⟩ (.bool false)).setCell ⟨w.heap.size, 1, none⟩ (.slice none 0 0)).cell? ⟨w.heap.size, 0, none⟩ = some (.bool false) := by
    rw [World.cell?_setCell_other _ _ _ _ (by simp)]; exact World.cell?_setCell_same _ _ _ c0
  refine bodyPost_ret (v := .tuple #[.agg #[.bool false, .slice none 0 0], .bool false]) (by simp [results, Tryd.results25, go_sem, r0, r1]) rfl ?_
  exact ⟨rfl, ((below_more (below1 w _) HB.out).setCell (Nat.le_refl _) _).setCell (Nat.le_refl _) _⟩

theorem w_textV (bl : Bool) (v : Value) (x K : Nat) (w : World) (h : NumV w v x) (hx : x < 1000000000 ^ K) (hK : K ≤ 17179869184) (htab : Tab w) :
    Calls Tryd.prog 27 #[.agg #[.bool bl, v]] w fun e w' => ∃ r : ByteArray, e = .returned (.string r) ∧ Hid (Pl.formed r.data.toList = true ∧ Pl.ival r.data.toList = sgn bl x) ∧ Below w.heap.size w w' := by
  obtain ⟨zs, g, e, l⟩ := h.fits hx
  refine (w_text bl v zs w g (by omega) htab).mono ?_
  rintro e' w' ⟨r, h1, h2, h3, h4⟩
  exact ⟨r, h1, ⟨h2, by rw [← e]; exact h3⟩, h4⟩

/-- reading, either way -/
theorem w_treadV (s : ByteArray) (w : World) (hs : s.size ≤ 4294967296) (hf : Pl.formed s.data.toList = true) :
    Calls Tryd.prog 25 #[.string s] w fun e w' => ∃ ro rn rc, e = .returned (.tuple #[.agg #[.bool (Pl.neg s.data.toList), .slice ro rn rc], .bool true]) ∧ Hid (NumV w' (.slice ro rn rc) (Pl.dvl (Pl.body s.data.toList))) ∧ Below w.heap.size w w' := by
  refine (w_tread s w hs hf).mono ?_
  rintro e w' ⟨v, rfl, ⟨zs, h1, h2, h3⟩, h4⟩
  obtain ⟨ro, rc, rfl, _⟩ := h1.1
  exact ⟨ro, _, rc, rfl, ⟨zs, h1, h2⟩, h4⟩
end Go.Proofs.YtgnaeddpdomgkabDoor
