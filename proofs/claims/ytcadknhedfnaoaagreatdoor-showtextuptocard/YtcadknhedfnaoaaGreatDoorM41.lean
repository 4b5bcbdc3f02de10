import Derived.Test.YtcadknhedfnaoaaGreatDoorM5
import Derived.Deep.QuietTactic
import Derived.BigQuiet
namespace Go.Proofs.YtcadknhedfnaoaaGreatDoor
open Go.RowKit
set_option linter.unusedVariables false
set_option linter.unusedSimpArgs false

/-- while letters are turned: what the new row holds -/
structure LetSt (w wr : World) (l : List UInt8) : Prop where
  row : ∃ (tail : List Value) (fr : Nat × Nat), wr.heap[w.heap.size]? = some (.cells (Lib.byteCells l ++ tail).toArray 5 fr) ∧ l.length ≤ fr.1
  below : Below w.heap.size w wr

theorem bc_len (l : List UInt8) : (Lib.byteCells l).length = l.length := by simp [Lib.byteCells]

theorem let_start (w : World) (s : ByteArray) : LetSt w (Lib.bytesWorld w 5 s) s.data.toList := by
  refine ⟨⟨List.replicate (grownCap w s.size 0 5 - s.size) (.int .u8 0), ((Lib.bytesCells w 5 s).size, (Lib.bytesCells w 5 s).size + 1), ?_, ?_⟩, Lib.bytesWorld_below w 5 s⟩
  · rw [Lib.bytesWorld_at_new]
    congr 2
    apply Array.ext'
    simp [Lib.bytesCells, Lib.byteCells]
  · simp [Lib.bytesCells]

theorem LetSt.cell {w wr : World} {l : List UInt8} (h : LetSt w wr l) (j : Nat) (hj : j < l.length) : wr.cell? ⟨w.heap.size, j, none⟩ = some (.int .u8 ((l.getD j 0).toNat : Int)) ∧ wr.frozen? ⟨w.heap.size, j, none⟩ = false := by
  obtain ⟨tail, fr, h1, h2⟩ := h.row
  constructor
  · rw [cell_of_row _ _ _ _ _ _ h1, List.getElem?_toArray, List.getElem?_append_left (by rw [bc_len]; exact hj)]
    simp [Lib.byteCells, hj]
  · simp only [World.frozen?, h1]
    simp
    omega

theorem LetSt.set {w wr : World} {l : List UInt8} (h : LetSt w wr l) (j : Nat) (c : UInt8) (hj : j < l.length) : LetSt w (wr.setCell ⟨w.heap.size, j, none⟩ (.int .u8 (c.toNat : Int))) (l.set j c) := by
  obtain ⟨tail, fr, h1, h2⟩ := h.row
  refine ⟨⟨tail, fr, ?_, by simpa using h2⟩, h.below.setCell (Nat.le_refl _) _⟩
  rw [setCell_eq_setRow _ _ _ _ _ _ _ h1, setRow_heap _ _ _ _ _ _ h1]
  congr 2
  rw [List.setIfInBounds_toArray, List.set_append_left _ _ (by rw [bc_len]; exact hj)]
  simp [Lib.byteCells, List.map_set]

/-- a letter in its other size -/
def turnB (a b : Nat) (c : UInt8) : UInt8 := if a ≤ c.toNat ∧ c.toNat ≤ b then UInt8.ofNat (c.toNat ^^^ 32) else c

set_option maxRecDepth 100000 in
theorem xor32 (c : Nat) (h : c < 256) : bits .xor .u8 (c : Int) 32 = (((UInt8.ofNat (c ^^^ 32)).toNat : Nat) : Int) := by
  have : ∀ c : Fin 256, bits .xor .u8 ((c.val : Nat) : Int) 32 = (((UInt8.ofNat (c.val ^^^ 32)).toNat : Nat) : Int) := by decide
  exact this ⟨c, h⟩

set_option maxRecDepth 100000 in
theorem xor32n (c : Nat) (h : c < 256) : (UInt8.ofNat (c ^^^ 32)).toNat = c ^^^ 32 := by
  have : ∀ c : Fin 256, (UInt8.ofNat (c.val ^^^ 32)).toNat = c.val ^^^ 32 := by decide
  exact this ⟨c, h⟩

theorem turn_step {l : List UInt8} {f : UInt8 → UInt8} {k : Nat} (h : k < l.length) : ((l.take k).map f ++ l.drop k).set k (f (l.getD k 0)) = (l.take (k + 1)).map f ++ l.drop (k + 1) := by
  have hg : l.getD k 0 = l[k] := by rw [List.getD_eq_getElem?_getD, List.getElem?_eq_getElem h]; rfl
  rw [List.drop_eq_getElem_cons h, List.set_append_right _ _ (by simp; omega), hg]
  have : k - ((l.take k).map f).length = 0 := by simp; omega
  rw [this, List.set_cons_zero, List.take_succ_eq_append_getElem h, List.map_append, List.append_assoc]
  rfl
theorem turn_at {l : List UInt8} {f : UInt8 → UInt8} {k : Nat} (h : k < l.length) : ((l.take k).map f ++ l.drop k).getD k 0 = l.getD k 0 := by
  rw [List.getD_eq_getElem?_getD, List.getElem?_append_right (by simp; omega)]
  have : k - ((l.take k).map f).length = 0 := by simp; omega
  rw [this, List.getElem?_drop]; simp
theorem turn_len {l : List UInt8} {f : UInt8 → UInt8} {k : Nat} (h : k ≤ l.length) : ((l.take k).map f ++ l.drop k).length = l.length := by simp; omega

def low (s : ByteArray) : ByteArray := ⟨(s.data.toList.map (turnB 65 90)).toArray⟩
def upp (s : ByteArray) : ByteArray := ⟨(s.data.toList.map (turnB 97 122)).toArray⟩

theorem low_size (s : ByteArray) : (low s).size = s.size := by
  show ((s.data.toList.map (turnB 65 90)).toArray).size = s.data.size
  rw [List.size_toArray, List.length_map, Array.length_toList]
theorem upp_size (s : ByteArray) : (upp s).size = s.size := by
  show ((s.data.toList.map (turnB 97 122)).toArray).size = s.data.size
  rw [List.size_toArray, List.length_map, Array.length_toList]
theorem low_at (s : ByteArray) (k : Nat) (h : k < (low s).size) (h' : k < s.size) : (low s)[k]'h = turnB 65 90 (s[k]'h') := by
  have hl : k < (s.data.toList.map (turnB 65 90)).length := by rw [List.length_map, Array.length_toList]; exact h'
  have e : (low s)[k]'h = (s.data.toList.map (turnB 65 90))[k]'hl := rfl
  rw [e, List.getElem_map]; rfl
theorem upp_at (s : ByteArray) (k : Nat) (h : k < (upp s).size) (h' : k < s.size) : (upp s)[k]'h = turnB 97 122 (s[k]'h') := by
  have hl : k < (s.data.toList.map (turnB 97 122)).length := by rw [List.length_map, Array.length_toList]; exact h'
  have e : (upp s)[k]'h = (s.data.toList.map (turnB 97 122))[k]'hl := rfl
  rw [e, List.getElem_map]; rfl

theorem turn_all (P : UInt8 → Prop) (h : ∀ i : Fin 256, P (UInt8.ofNat i.val)) (c : UInt8) : P c := by
  have := h ⟨c.toNat, c.toNat_lt⟩
  simpa using this
set_option maxRecDepth 100000 in
theorem low_upp_c (c : UInt8) : turnB 65 90 (turnB 97 122 c) = turnB 65 90 c := turn_all (fun c => turnB 65 90 (turnB 97 122 c) = turnB 65 90 c) (by decide) c
set_option maxRecDepth 100000 in
theorem upp_low_c (c : UInt8) : turnB 97 122 (turnB 65 90 c) = turnB 97 122 c := turn_all (fun c => turnB 97 122 (turnB 65 90 c) = turnB 97 122 c) (by decide) c
theorem low_upp (s : ByteArray) : low (upp s) = low s := by
  unfold low upp
  congr 2
  simp [low_upp_c]
theorem upp_low (s : ByteArray) : upp (low s) = upp s := by
  unfold low upp
  congr 2
  simp [upp_low_c]
set_option maxRecDepth 100000 in
theorem turn_cases (c : UInt8) : (97 ≤ c.toNat ∧ c.toNat ≤ 122 ∧ (turnB 65 90 c).toNat = c.toNat ∧ (turnB 97 122 c).toNat ≠ c.toNat) ∨ (65 ≤ c.toNat ∧ c.toNat ≤ 90 ∧ (turnB 65 90 c).toNat ≠ c.toNat ∧ (turnB 97 122 c).toNat = c.toNat) ∨ (¬ (97 ≤ c.toNat ∧ c.toNat ≤ 122) ∧ ¬ (65 ≤ c.toNat ∧ c.toNat ≤ 90) ∧ (turnB 65 90 c).toNat = c.toNat ∧ (turnB 97 122 c).toNat = c.toNat) := turn_all (fun c => (97 ≤ c.toNat ∧ c.toNat ≤ 122 ∧ (turnB 65 90 c).toNat = c.toNat ∧ (turnB 97 122 c).toNat ≠ c.toNat) ∨ (65 ≤ c.toNat ∧ c.toNat ≤ 90 ∧ (turnB 65 90 c).toNat ≠ c.toNat ∧ (turnB 97 122 c).toNat = c.toNat) ∨ (¬ (97 ≤ c.toNat ∧ c.toNat ≤ 122) ∧ ¬ (65 ≤ c.toNat ∧ c.toNat ≤ 90) ∧ (turnB 65 90 c).toNat = c.toNat ∧ (turnB 97 122 c).toNat = c.toNat)) (by decide) c
end Go.Proofs.YtcadknhedfnaoaaGreatDoor
