import Derived.Test.YtcadknhedfnaoaaGreatDoorM45
import Derived.Test.YtcadknhedfnaoaaGreatDoorM46
namespace Go.Proofs.YtcadknhedfnaoaaGreatDoor
open Go.RowKit
set_option linter.unusedVariables false
set_option linter.unusedSimpArgs false


theorem prow_len (s : ByteArray) (n : Nat) : (prow s n).length = n * 4 := by
  induction n with
  | zero => rfl
  | succ n ih => rw [prow_up, List.length_append, ih]; simp [pcC]; omega
theorem prow_get (s : ByteArray) {k N : Nat} (h : k < N) (j : Nat) (hj : j < 4) : (prow s N)[k * 4 + j]? = (pcC s (off s.data.toList k))[j]? := by
  obtain ⟨m, rfl⟩ : ∃ m, N = (k + 1) + m := ⟨N - (k + 1), by omega⟩
  induction m with
  | zero =>
    rw [Nat.add_zero, prow_up, List.getElem?_append_right (by rw [prow_len]; omega), prow_len]
    congr 1; omega
  | succ m ih =>
    rw [show k + 1 + (m + 1) = k + 1 + m + 1 by omega, prow_up, List.getElem?_append_left (by rw [prow_len]; omega)]
    exact ih (by omega)

/-- the pieces' row, as it lies -/
structure PRow (s : ByteArray) (w : World) (g : Nat) : Prop where
  row : ∃ cur, w.heap[g]? = some (.cells cur 66 (0, 0)) ∧ cur.toList.take ((runes s.data.toList).length * 4) = prow s (runes s.data.toList).length
theorem PRow.get {s : ByteArray} {w : World} {g k : Nat} (h : PRow s w g) (hk : k < (runes s.data.toList).length) (j : Nat) (hj : j < 4) : w.cell? ⟨g, k * 4 + j, none⟩ = (pcC s (off s.data.toList k))[j]? := by
  obtain ⟨cur, h1, h2⟩ := h.row
  rw [cell_of_row w g _ _ _ _ h1, ← prow_get s hk j hj, ← h2, List.getElem?_take, if_pos (by omega), Array.getElem?_toList]

theorem stands_occ (s : ByteArray) (a : Nat) (l : List UInt8) : stands s a l ↔ OccAt l s.data.toList a := by
  unfold OccAt
  rw [size_len]
  constructor
  · intro h
    obtain ⟨post, hp⟩ := (stands_iff s a l (by have := h.1; omega)).1 h
    exact ⟨h.1, by rw [hp, List.take_left']; rfl⟩
  · rintro ⟨h1, h2⟩
    refine (stands_iff s a l (by omega)).2 ⟨(s.data.toList.drop a).drop l.length, ?_⟩
    have h3 := (List.take_append_drop l.length (s.data.toList.drop a)).symm
    rw [h2] at h3
    exact h3

theorem plcs_occs (s p : ByteArray) (hp : 0 < p.size) : plcs s p = occs p.data.toList s.data.toList s.size := by
  unfold plcs
  rw [if_neg (by omega)]
end Go.Proofs.YtcadknhedfnaoaaGreatDoor
