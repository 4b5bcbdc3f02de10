import Derived.Test.YtcadknhedfnaoaaGreatDoorM13
import Derived.Test.YtcadknhedfnaoaaGreatDoorM14
import Derived.Deep.RegionWith
import Derived.Deep.RegionHeld3
import Derived.Laws.MakeOwn
namespace Go.Proofs.YtcadknhedfnaoaaGreatDoor
open Go.RowKit
set_option linter.unusedVariables false
set_option linter.unusedSimpArgs false

/-- the borders so far: those of the first n beginnings -/
def Bords (w : World) (p : List UInt8) (g n : Nat) : Prop := g < w.heap.size ∧ ∀ i, i < n → ∃ k : Nat, w.cell? ⟨g, i, none⟩ = some (.int .i64 (k : Int)) ∧ IsMax p k ((p.take (i + 1)).tail)
theorem Bords.keep {w w' : World} {p : List UInt8} {g n : Nat} (h : Bords w p g n) (hb : Below w.heap.size w w') : Bords w' p g n :=
  ⟨Nat.lt_of_lt_of_le h.1 hb.size, fun i hi => by obtain ⟨k, h1, h2⟩ := h.2 i hi; exact ⟨k, (hb.cell (p := ⟨g, i, none⟩) h.1).trans h1, h2⟩⟩

theorem byte_eq (s : ByteArray) (k : Nat) (hk : k < s.size) : s.data.toList[k]'(by rw [Array.length_toList]; exact hk) = s[k] := by
  simp [ByteArray.getElem_eq_getElem_data]
theorem size_len (s : ByteArray) : s.data.toList.length = s.size := Array.length_toList

theorem byte_of {x b : UInt8} (h : ((x.toNat : Int) == (b.toNat : Int)) = true) : x = b := by
  have := eq_of_beq h
  exact UInt8.toNat_inj.1 (by omega)
theorem byte_ne {x b : UInt8} (h : ((x.toNat : Int) == (b.toNat : Int)) = false) : x ≠ b := by
  rintro rfl
  simp at h

theorem goOn_le {p u : List UInt8} {b : UInt8} {k : Nat} (h : IsMax p k (u ++ [b])) : k ≤ u.length + 1 := by
  have h1 := h.2.1.length_le
  rw [len_take h.1] at h1
  simpa using h1

/-- the row of the borders while it is filled -/
structure BoSt (w wr : World) (p : List UInt8) (g n i : Nat) : Prop where
  row : ∃ cs : List Int, cs.length = n ∧ wr.heap[g]? = some (.cells (ivals .i64 cs).toArray 3 (0, 0))
  bords : Bords wr p g i
  below : Below w.heap.size w wr
  new : w.heap.size ≤ g

theorem BoSt.cell {w wr : World} {p : List UInt8} {g n i : Nat} (h : BoSt w wr p g n i) (j : Nat) (hj : j < n) : ∃ v, wr.cell? ⟨g, j, none⟩ = some v := by
  obtain ⟨cs, hl, hg⟩ := h.row
  refine ⟨.int .i64 (cs.getD j 0), ?_⟩
  rw [cell_of_row wr g j _ _ _ hg]
  simp [ivals, List.getD, hl, hj]
theorem BoSt.free {w wr : World} {p : List UInt8} {g n i : Nat} (h : BoSt w wr p g n i) (j : Nat) : wr.frozen? ⟨g, j, none⟩ = false := by
  obtain ⟨cs, hl, hg⟩ := h.row
  exact frozen_of_row wr g j _ _ hg

theorem BoSt.step {w wr : World} {p : List UInt8} {g n i k : Nat} (h : BoSt w wr p g n i) (hi : i < n) (hm : IsMax p k ((p.take (i + 1)).tail)) : BoSt w (wr.setCell ⟨g, i, none⟩ (.int .i64 (k : Int))) p g n (i + 1) := by
  obtain ⟨cs, hl, hg⟩ := h.row
  refine ⟨⟨cs.set i (k : Int), by rw [List.length_set]; exact hl, ?_⟩, ⟨by simp; exact h.bords.1, fun j hj => ?_⟩, h.below.setCell (p := ⟨g, i, none⟩) h.new _, h.new⟩
  · have h1 : (wr.setCell ⟨g, i, none⟩ (.int .i64 (k : Int))).heap[g]? = some (.cells ((ivals .i64 cs).toArray.setIfInBounds i (.int .i64 (k : Int))) 3 (0, 0)) := heap_setCell_same wr g i _ _ _ hg
    rw [h1]
    simp [ivals, List.map_set]
  · by_cases he : j = i
    · subst he
      obtain ⟨v, hv⟩ := h.cell j hi
      exact ⟨k, World.cell?_setCell_same _ _ _ hv, hm⟩
    · obtain ⟨k', h1, h2⟩ := h.bords.2 j (by omega)
      exact ⟨k', by rw [World.cell?_setCell_other _ _ _ _ (by simp <;> omega)]; exact h1, h2⟩

/-- a new row of noughts -/
def kzrow (n : Nat) : Obj := .cells (ivals .i64 (List.replicate n 0)).toArray 3 (0, 0)
theorem kmade_zeros (n : Nat) : madeCells #[.int .i64 0] n = (ivals .i64 (List.replicate n 0)).toArray := by
  unfold madeCells ivals
  apply Array.ext
  · simp
  · intro i h1 h2
    have e : i % 1 = 0 := by omega
    simp [e]
theorem run_make_krow (n : Nat) (hn : n ≤ 1099511627776) (u : World) : (Instr.makeSlice 68 (.int .i64 (n : Int)) (.int .i64 (n : Int))).run Tryz.prog u = .ok (.slice (some ⟨u.heap.size, 0, none⟩) n n) (u.alloc (kzrow n)) := by
  obtain ⟨i0, hi, hz0, hz1, hz2⟩ := info_parts Tryz.infoI
  have h := run_make (P := Tryz.prog) u 68 3 i0 (.int .i64 0) Tryz.underlying68 hi hz0 .i64 .i64 (n : Int) (n : Int) (by omega) (Int.le_refl _) (by rw [hz2]; omega) (by omega)
  have e : ((n : Int)).toNat = n := by omega
  rw [e] at h
  unfold kzrow
  rw [← kmade_zeros]
  simpa [hz1, Value.cells] using h
end Go.Proofs.YtcadknhedfnaoaaGreatDoor
