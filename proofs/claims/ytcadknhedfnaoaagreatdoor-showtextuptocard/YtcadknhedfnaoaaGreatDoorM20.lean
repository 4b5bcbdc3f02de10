import Derived.Test.YtcadknhedfnaoaaGreatDoorM17
import Derived.Test.YtcadknhedfnaoaaGreatDoorM19
namespace Go.Proofs.YtcadknhedfnaoaaGreatDoor
open Go.RowKit
set_option linter.unusedVariables false
set_option linter.unusedSimpArgs false

def cBl : List UInt8 := [32, 9, 10, 13]
def cMk : List UInt8 := [123, 125, 91, 93, 58, 44]
def cLe : List UInt8 := [97, 98, 99, 100, 101, 102, 103, 104, 105, 106, 107, 108, 109, 110, 111, 112, 113, 114, 115, 116, 117, 118, 119, 120, 121, 122, 65, 66, 67, 68, 69, 70, 71, 72, 73, 74, 75, 76, 77, 78, 79, 80, 81, 82, 83, 84, 85, 86, 87, 88, 89, 90, 95]
def cDg : List UInt8 := [48, 49, 50, 51, 52, 53, 54, 55, 56, 57]
def cWd : List UInt8 := [97, 98, 99, 100, 101, 102, 103, 104, 105, 106, 107, 108, 109, 110, 111, 112, 113, 114, 115, 116, 117, 118, 119, 120, 121, 122, 65, 66, 67, 68, 69, 70, 71, 72, 73, 74, 75, 76, 77, 78, 79, 80, 81, 82, 83, 84, 85, 86, 87, 88, 89, 90, 95, 48, 49, 50, 51, 52, 53, 54, 55, 56, 57]
def cNm : List UInt8 := [97, 98, 99, 100, 101, 102, 103, 104, 105, 106, 107, 108, 109, 110, 111, 112, 113, 114, 115, 116, 117, 118, 119, 120, 121, 122, 65, 66, 67, 68, 69, 70, 71, 72, 73, 74, 75, 76, 77, 78, 79, 80, 81, 82, 83, 84, 85, 86, 87, 88, 89, 90, 95, 48, 49, 50, 51, 52, 53, 54, 55, 56, 57, 43, 45, 46]
def cDm : List UInt8 := [48, 49, 50, 51, 52, 53, 54, 55, 56, 57, 45]

/-- the place behind the longest run of these bytes -/
def behL (l : List UInt8) (p : Nat) (cs : List UInt8) : Nat := l.length - ((l.drop p).dropWhile (cs.contains ·)).length
theorem dropWhile_le (p : UInt8 → Bool) : ∀ l : List UInt8, (l.dropWhile p).length ≤ l.length
  | [] => Nat.le_refl _
  | c :: r => by
    rw [List.dropWhile_cons]
    split
    · exact Nat.le_trans (dropWhile_le p r) (Nat.le_succ _)
    · exact Nat.le_refl _
theorem behL_ge {l : List UInt8} {p : Nat} (cs : List UInt8) (hp : p ≤ l.length) : p ≤ behL l p cs ∧ behL l p cs ≤ l.length := by
  have := dropWhile_le (cs.contains ·) (l.drop p)
  rw [List.length_drop] at this
  unfold behL
  omega
theorem behL_gt {l : List UInt8} {p : Nat} {cs : List UInt8} (hp : p < l.length) (hc : cs.contains (l.getD p 0) = true) : p < behL l p cs := by
  have e : l.drop p = l.getD p 0 :: l.drop (p + 1) := by
    rw [List.drop_eq_getElem_cons hp]; simp [List.getD, hp]
  have := dropWhile_le (cs.contains ·) (l.drop (p + 1))
  rw [List.length_drop] at this
  unfold behL
  rw [e, List.dropWhile_cons, if_pos hc]
  omega

/-- a token, and its error -/
structure Tok where
  kind : Nat
  at_ : Nat
  fin : Nat
  text : List UInt8
  err : Nat
def cut (l : List UInt8) (a b : Nat) : List UInt8 := (l.drop a).take (b - a)
def numT (n : List UInt8) : List UInt8 := if n = [45, 48] then [48] else n
/-- what begins at a place -/
def wordT (l : List UInt8) (p : Nat) : Tok :=
  if cut l p (behL l p cWd) = [110, 117, 108, 108] then ⟨7, p, behL l p cWd, [], 0⟩
  else if cut l p (behL l p cWd) = [102, 97, 108, 115, 101] then ⟨8, p, behL l p cWd, [], 0⟩
  else if cut l p (behL l p cWd) = [116, 114, 117, 101] then ⟨9, p, behL l p cWd, [], 0⟩
  else ⟨0, p, 0, [], 41⟩
def numeralT (l : List UInt8) (p : Nat) : Tok :=
  if Pl.formed (numT (cut l p (behL l p cNm))) = true then ⟨10, p, behL l p cNm, numT (cut l p (behL l p cNm)), 0⟩ else ⟨0, p, 0, [], 42⟩
def litT (l : List UInt8) (p : Nat) : Tok :=
  if (unqL l (p + 1) []).2.2 = 0 then ⟨11, p, (unqL l (p + 1) []).2.1, txt (unqL l (p + 1) []).1, 0⟩ else ⟨0, (unqL l (p + 1) []).2.1, 0, [], (unqL l (p + 1) []).2.2⟩
def nextT (l : List UInt8) (p : Nat) : Tok :=
  if cMk.contains (l.getD p 0) = true then ⟨(1 + Lib.indexByte cMk (l.getD p 0)).toNat, p, p + 1, [], 0⟩
  else if l.getD p 0 = 34 then litT l p
  else if cLe.contains (l.getD p 0) = true then wordT l p
  else if cDm.contains (l.getD p 0) = true then numeralT l p
  else ⟨0, p, 0, [], 40⟩
/-- all that is told from a place on -/
def restY (l : List UInt8) : Nat → Nat → List Tok
  | 0, _ => []
  | f + 1, p => if p < l.length then (if (nextT l p).err = 0 then nextT l p :: restY l f (behL l (nextT l p).fin cBl) else [nextT l p]) else []
def allY (l : List UInt8) : List Tok := restY l (l.length + 1) (behL l 0 cBl)

theorem unqL_le (l : List UInt8) : ∀ (n p : Nat) (acc : List Nat), l.length - p ≤ n → (unqL l p acc).2.2 = 0 → p ≤ l.length → p ≤ (unqL l p acc).2.1 ∧ (unqL l p acc).2.1 ≤ l.length := by
  intro n
  induction n with
  | zero =>
    intro p acc hn h0 hp
    rw [unqL_end acc (by omega)] at h0
    cases h0
  | succ n ih =>
    intro p acc hn h0 hp
    by_cases hlt : p < l.length
    · rw [unqL, dif_pos hlt] at h0 ⊢
      split at h0
      · next h1 => rw [if_pos h1]; exact ⟨by show p ≤ p + 1; omega, by show p + 1 ≤ _; omega⟩
      · next h1 =>
        rw [if_neg h1]
        split at h0
        · cases h0
        · next h2 =>
          rw [if_neg h2]
          split at h0
          · cases h0
          · next h3 =>
            rw [if_neg h3]
            split at h0
            · next h4 =>
              rw [if_pos h4]
              split at h0
              · next h5 =>
                rw [if_pos h5]
                obtain ⟨e1, e2, _⟩ := escL_ok h5
                rw [if_pos e1] at h0 ⊢
                have := ih _ _ (by omega) h0 e2
                omega
              · next h5 => exact absurd h0 h5
            · next h4 =>
              rw [if_neg h4]
              have hz := decL_pos (l.drop p)
              have hst := decL_le (l.drop p) (fun e => by have := congrArg List.length e; rw [List.length_drop] at this; simp at this; omega)
              rw [List.length_drop] at hst
              rw [if_pos (by omega)] at h0 ⊢
              have := ih _ _ (by omega) h0 (by omega)
              omega
    · rw [unqL_end acc hlt] at h0; cases h0
end Go.Proofs.YtcadknhedfnaoaaGreatDoor
