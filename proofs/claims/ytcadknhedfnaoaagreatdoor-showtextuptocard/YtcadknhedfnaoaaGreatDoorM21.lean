import Derived.Test.YtcadknhedfnaoaaGreatDoorM20
import Derived.Shelf.Strings.SlTrimAscii
import Derived.Deep.QuietTactic
import Derived.BigQuiet
namespace Go.Proofs.YtcadknhedfnaoaaGreatDoor
open Go.RowKit
set_option linter.unusedVariables false
set_option linter.unusedSimpArgs false

theorem size_lst (s : ByteArray) : s.data.toList.length = s.size := by rw [Array.length_toList]; rfl
theorem extract_lst (s : ByteArray) (a b : Nat) (hb : b ≤ s.size) : (s.extract a b).data.toList = cut s.data.toList a b := by
  rw [Lib.extract_data]; rfl

theorem ascii_all {cs : List UInt8} (h : cs.all (fun b => decide (b.toNat < 128)) = true) : ∀ (j : Nat) b, cs[j]? = some b → b.toNat < 128 := fun j b hb => by
  have := List.all_eq_true.1 h b (List.mem_of_getElem? hb)
  simpa using this

/-- a token as a value -/
def tokV (t : Tok) : Value := .agg #[.int .i64 (t.kind : Int), .int .i64 (t.at_ : Int), .int .i64 (t.fin : Int), .string ⟨t.text.toArray⟩]
def TokR (t : Tok) (w w' : World) (e : Ending) : Prop := e = .returned (.tuple #[tokV t, .int .i64 (t.err : Int)]) ∧ Below w.heap.size w w'

theorem indexB_bd (l : List UInt8) (c : UInt8) : -1 ≤ Lib.indexByte l c ∧ Lib.indexByte l c < (l.length : Int) := by
  induction l with
  | nil => simp [Lib.indexByte]
  | cons x r ih =>
    unfold Lib.indexByte
    simp only [List.length_cons]
    repeat' split
    all_goals omega
theorem indexB_has (l : List UInt8) (c : UInt8) : (l.contains c = true ↔ 0 ≤ Lib.indexByte l c) := by
  induction l with
  | nil => simp [Lib.indexByte]
  | cons x r ih =>
    have hb := indexB_bd r c
    rw [List.contains_cons]
    unfold Lib.indexByte
    cases h : (x == c) with
    | true =>
      have : x = c := by simpa using h
      subst this
      simp
    | false =>
      have h2 : (c == x) = false := by
        rw [beq_eq_false_iff_ne] at h ⊢
        exact fun e => h e.symm
      rw [h2, Bool.false_or]
      simp only [Bool.false_eq_true, if_false]
      rw [ih]
      by_cases hm : Lib.indexByte r c = -1
      · rw [hm]; simp
      · have : (Lib.indexByte r c == -1) = false := by rw [beq_eq_false_iff_ne]; exact hm
        rw [this]
        simp only [Bool.false_eq_true, if_false]
        omega
theorem byte_back (b : UInt8) : ((b.toNat : Nat) : Int).toNat.toUInt8 = b := by simp
theorem getD_byte {s : ByteArray} {p : Nat} (h : p < s.size) : s.data.toList.getD p 0 = s[p] := by
  rw [← byte_eq s p h]
  have : p < s.data.toList.length := by rw [size_lst]; exact h
  rw [List.getD, List.getElem?_eq_getElem this]; rfl

theorem box_set4 (w : World) (B : Nat) (t : TypeId) (y0 y1 y2 y3 a0 a1 a2 a3 : Value) (h : w.heap[B]? = some (.cells #[y0, y1, y2, y3] t (0, 0))) (wz : World) (hz : wz = (((w.setCell ⟨B, 0, none⟩ a0).setCell ⟨B, 1, none⟩ a1).setCell ⟨B, 2, none⟩ a2).setCell ⟨B, 3, none⟩ a3) :
    wz.heap[B]? = some (.cells #[a0, a1, a2, a3] t (0, 0)) ∧ (∀ b, b ≠ B → wz.heap[b]? = w.heap[b]?) ∧ wz.heap.size = w.heap.size ∧ ∀ n, n ≤ B → Below n w wz := by
  subst hz
  refine ⟨?_, fun b hb => ?_, by simp, fun n hn => ?_⟩
  · have e : ∀ (u : World) (c : Array Value) (i : Nat) (v : Value), u.heap[B]? = some (.cells c t (0, 0)) → (u.setCell ⟨B, i, none⟩ v).heap[B]? = some (.cells (c.setIfInBounds i v) t (0, 0)) := fun u c i v hu => by
      show (u.heap.modify B _)[B]? = _
      rw [Array.getElem?_modify, if_pos rfl, hu]; rfl
    exact e _ _ 3 a3 (e _ _ 2 a2 (e _ _ 1 a1 (e _ _ 0 a0 h)))
  · rw [Below.heap_setCell _ _ _ _ hb, Below.heap_setCell _ _ _ _ hb, Below.heap_setCell _ _ _ _ hb, Below.heap_setCell _ _ _ _ hb]
  · exact ((((Below.refl n w).setCell (p := ⟨B, 0, none⟩) hn _).setCell (p := ⟨B, 1, none⟩) hn _).setCell (p := ⟨B, 2, none⟩) hn _).setCell (p := ⟨B, 3, none⟩) hn _
theorem frozen_rowT {w : World} {B j : Nat} {cs : Array Value} {t : TypeId} (h : w.heap[B]? = some (.cells cs t (0, 0))) : w.frozen? ⟨B, j, none⟩ = false := by simp [World.frozen?, h]
theorem heap_lowT {w w' : World} {n : Nat} (hb : Below n w w') {b : Nat} {o : Obj} (hlt : b < n) (h : w.heap[b]? = some o) : w'.heap[b]? = some o := (hb.block b hlt).trans h
end Go.Proofs.YtcadknhedfnaoaaGreatDoor
