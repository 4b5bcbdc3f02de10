import Derived.Test.YtdehejadiofomaaDoorV18
namespace Go.Proofs.YtdehejadiofomaaDoor
open Go.RowKit
set_option linter.unusedVariables false
set_option linter.unusedSimpArgs false

/-- what Quote writes between its quotes -/
def qb (zs : List Nat) : List UInt8 := zs.flatMap qd
theorem qb_cons (z : Nat) (r : List Nat) : qb (z :: r) = qd z ++ qb r := rfl
theorem qb_len (zs : List Nat) : (qb zs).length ≤ 6 * zs.length := by
  induction zs with
  | nil => exact Nat.le_refl _
  | cons z r ih =>
    have := (qd_len z).2
    rw [qb_cons, List.length_append, List.length_cons]; omega

theorem iterPos_of {w : World} {k : Nat} {s : ByteArray} {p : Nat} (h : w.heap[k]? = some (.stringIter s p)) : w.iterPos k = p := by simp [World.iterPos, h]
theorem drop_ne' {s : ByteArray} {p : Nat} (h : p < s.size) : s.data.toList.drop p ≠ [] := by
  intro e
  have := congrArg List.length e
  rw [List.length_drop, Array.length_toList, List.length_nil] at this
  have e2 : s.data.size = s.size := rfl
  omega
theorem step_le' {s : ByteArray} {p : Nat} (h : p < s.size) : p + (decL (s.data.toList.drop p)).2 ≤ s.size := by
  have := decL_le _ (drop_ne' h)
  rw [List.length_drop, Array.length_toList] at this
  have e2 : s.data.size = s.size := rfl
  omega
theorem drop_all' {s : ByteArray} {p : Nat} (h : ¬ p < s.size) : s.data.toList.drop p = [] := List.drop_eq_nil_of_le (by simp; omega)

/-- while Quote writes -/
structure QuSt (B k0 : Nat) (w wr : World) (v : Value) (n : Nat) (s : ByteArray) (pos : Nat) : Prop where
  iter : wr.heap[k0]? = some (.stringIter s pos)
  own : ∃ l, l.length = n ∧ wr.ownsRow B 5 1 v n (Lib.byteCells l) ∧ l ++ qb (runes (s.data.toList.drop pos)) = 34 :: qb (runes s.data.toList)
  below : Below B w wr
end Go.Proofs.YtdehejadiofomaaDoor
