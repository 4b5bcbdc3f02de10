import Derived.Test.YtdjleoglphgdgaaGreatDoorM13
import Derived.Test.YtdjleoglphgdgaaGreatDoorM17
import Derived.Test.YtdjleoglphgdgaaGreatDoorM15
namespace Go.Proofs.YtdjleoglphgdgaaGreatDoor
open Go.RowKit
set_option linter.unusedVariables false
set_option linter.unusedSimpArgs false

/-- the rune of a short escape's letter -/
def shN (c : UInt8) : Option Nat := if c = 34 then some 34 else if c = 92 then some 92 else if c = 47 then some 47 else if c = 98 then some 8 else if c = 102 then some 12 else if c = 110 then some 10 else if c = 114 then some 13 else if c = 116 then some 9 else none
def shortL (l : List UInt8) : Option Nat := if l.getD 0 0 = 92 ∧ 2 ≤ l.length then shN (l.getD 1 0) else none
def numL (l : List UInt8) : Option Nat := if 6 ≤ l.length ∧ l.getD 0 0 = 92 ∧ l.getD 1 0 = 117 ∧ ((l.drop 2).take 4).all isHex = true then some (hexN ((l.drop 2).take 4)) else none
/-- rune, place, code -/
def escL (l : List UInt8) (k : Nat) : Nat × Nat × Nat :=
  match shortL (l.drop k) with
  | some r => (r, k + 2, 0)
  | none => match numL (l.drop k) with
    | none => (0, k, 23)
    | some n => if n < 55296 ∨ 57344 ≤ n then (n, k + 6, 0) else
      match numL (l.drop (k + 6)) with
      | none => (0, k, 24)
      | some m => if n < 56320 ∧ 56320 ≤ m ∧ m < 57344 then (65536 + (n - 55296) * 1024 + (m - 56320), k + 12, 0) else (0, k, 24)

def unqL (l : List UInt8) (p : Nat) (acc : List Nat) : List Nat × Nat × Nat :=
  if h : p < l.length then
    if (decL (l.drop p)).1 = 34 then (acc, p + 1, 0)
    else if (decL (l.drop p)).1 < 32 then ([], p, 22)
    else if strayL (l.drop p) = true then ([], p, 20)
    else if (decL (l.drop p)).1 = 92 then
      (if (escL l p).2.2 = 0 then (if p < (escL l p).2.1 then unqL l (escL l p).2.1 (acc ++ [(escL l p).1]) else ([], 0, 0)) else ([], (escL l p).2.1, (escL l p).2.2))
    else (if 0 < (decL (l.drop p)).2 then unqL l (p + (decL (l.drop p)).2) (acc ++ [(decL (l.drop p)).1]) else ([], 0, 0))
  else ([], l.length, 21)
termination_by l.length - p

theorem unqL_end {l : List UInt8} {p : Nat} (acc : List Nat) (h : ¬ p < l.length) : unqL l p acc = ([], l.length, 21) := by rw [unqL, dif_neg h]
theorem unqL_quote {l : List UInt8} {p : Nat} (acc : List Nat) (h : p < l.length) (h1 : (decL (l.drop p)).1 = 34) : unqL l p acc = (acc, p + 1, 0) := by rw [unqL, dif_pos h, if_pos h1]
theorem unqL_ctl {l : List UInt8} {p : Nat} (acc : List Nat) (h : p < l.length) (h1 : ¬ (decL (l.drop p)).1 = 34) (h2 : (decL (l.drop p)).1 < 32) : unqL l p acc = ([], p, 22) := by rw [unqL, dif_pos h, if_neg h1, if_pos h2]
theorem unqL_stray {l : List UInt8} {p : Nat} (acc : List Nat) (h : p < l.length) (h1 : ¬ (decL (l.drop p)).1 = 34) (h2 : ¬ (decL (l.drop p)).1 < 32) (h3 : strayL (l.drop p) = true) : unqL l p acc = ([], p, 20) := by rw [unqL, dif_pos h, if_neg h1, if_neg h2, if_pos h3]
theorem unqL_esc {l : List UInt8} {p : Nat} (acc : List Nat) (h : p < l.length) (h3 : strayL (l.drop p) = false) (h4 : (decL (l.drop p)).1 = 92) : unqL l p acc = (if (escL l p).2.2 = 0 then (if p < (escL l p).2.1 then unqL l (escL l p).2.1 (acc ++ [(escL l p).1]) else ([], 0, 0)) else ([], (escL l p).2.1, (escL l p).2.2)) := by
  rw [unqL, dif_pos h, if_neg (by omega), if_neg (by omega), if_neg (by rw [h3]; decide), if_pos h4]
theorem unqL_rune {l : List UInt8} {p : Nat} (acc : List Nat) (h : p < l.length) (h1 : ¬ (decL (l.drop p)).1 = 34) (h2 : ¬ (decL (l.drop p)).1 < 32) (h3 : strayL (l.drop p) = false) (h4 : ¬ (decL (l.drop p)).1 = 92) : unqL l p acc = unqL l (p + (decL (l.drop p)).2) (acc ++ [(decL (l.drop p)).1]) := by
  have := decL_pos (l.drop p)
  rw [unqL, dif_pos h, if_neg h1, if_neg h2, if_neg (by rw [h3]; decide), if_neg h4, if_pos (by omega)]

theorem dec_asciiD {l : List UInt8} {k : Nat} (hk : k < l.length) (h : (l.getD k 0).toNat < 128) : decL (l.drop k) = ((l.getD k 0).toNat, 1) := by
  rw [List.drop_eq_getElem_cons hk]
  have e : l.getD k 0 = l[k] := by simp [List.getD, hk]
  rw [e] at h ⊢
  exact dec1 _ rfl h
end Go.Proofs.YtdjleoglphgdgaaGreatDoor
namespace Go.Proofs.YtdjleoglphgdgaaGreatDoor
open Go.RowKit
set_option linter.unusedVariables false
set_option linter.unusedSimpArgs false

theorem escL_short {l : List UInt8} {k x : Nat} (h : shortL (l.drop k) = some x) : escL l k = (x, k + 2, 0) := by unfold escL; rw [h]
theorem escL_one {l : List UInt8} {k n : Nat} (h : shortL (l.drop k) = none) (h2 : numL (l.drop k) = some n) (h3 : n < 55296 ∨ 57344 ≤ n) : escL l k = (n, k + 6, 0) := by unfold escL; rw [h, h2]; exact if_pos h3
end Go.Proofs.YtdjleoglphgdgaaGreatDoor
namespace Go.Proofs.YtdjleoglphgdgaaGreatDoor
open Go.RowKit
set_option linter.unusedVariables false
set_option linter.unusedSimpArgs false

/-- while a text is read as a literal, exactly -/
structure ExSt (B k0 : Nat) (w wr : World) (v : Value) (n : Nat) (T : ByteArray) (pos : Nat) (done : List Nat) : Prop where
  iter : wr.heap[k0]? = some (.stringIter T pos)
  below : Below B w wr
  isr : ∀ z ∈ done, isR z
  len : (txt done).length = n
  own : wr.ownsRow B 5 1 v n (Lib.byteCells (txt done))

theorem ExSt.keep {B k0 n pos : Nat} {w W u : World} {v : Value} {T : ByteArray} {done : List Nat} (h : ExSt B k0 w W v n T pos done) (hB : B ≤ W.heap.size) (hu : Below W.heap.size W u) : ExSt B k0 w u v n T pos done :=
  ⟨by rw [hu.block k0 (Array.getElem?_eq_some_iff.1 h.iter).1]; exact h.iter, h.below.trans (hu.mono hB), h.isr, h.len, own_below h.own hu⟩

end Go.Proofs.YtdjleoglphgdgaaGreatDoor
