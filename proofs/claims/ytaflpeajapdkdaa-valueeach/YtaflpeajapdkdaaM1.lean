import Derived.Test.YtaflpeajapdkdaaRows
import Derived.Test.YtaflpeajapdkdaaM0
import Derived.WalkKit
import Derived.BigCall
import Derived.BigGuard
import Derived.Lib.ConvBytes
import Derived.Lib.AtoiErrMem
import Derived.Lib.Strings
import Derived.Laws.Strings3
namespace Go.RowKit
theorem Hid.mk {p : Prop} (h : p) : Hid p := h
end Go.RowKit
namespace Go.Proofs.Ytaflpeajapdkdaa
open Go.RowKit
set_option linter.unusedVariables false
set_option linter.unusedSimpArgs false

theorem below_more {w w1 w2 : World} (h : Below w.heap.size w w1) (h2 : Below w1.heap.size w1 w2) : Below w.heap.size w w2 := h.trans (h2.mono h.size)
theorem below1 (w : World) (o1 : Obj) : Below w.heap.size w (w.alloc o1) := (Below.refl w.heap.size w).alloc (Nat.le_refl _) o1

/-- a letter's worth to the base 16 -/
def hexd (c : UInt8) : Nat := if c.toNat ≤ 57 then c.toNat - 48 else (c.toNat ||| 32) - 87
def isHex (c : UInt8) : Bool := (decide (48 ≤ c.toNat) && decide (c.toNat ≤ 57)) || (decide (97 ≤ (c.toNat ||| 32)) && decide ((c.toNat ||| 32) ≤ 102) && decide (58 ≤ c.toNat))
def hexN (l : List UInt8) : Nat := l.foldl (fun n c => n * 16 + hexd c) 0

theorem hexN_snoc (l : List UInt8) (c : UInt8) : hexN (l ++ [c]) = hexN l * 16 + hexd c := by simp [hexN]

set_option maxRecDepth 100000 in
theorem or32 (c : Nat) (h : c < 256) : bits .or .u8 (c : Int) 32 = ((c ||| 32 : Nat) : Int) := by
  have : ∀ c : Fin 256, bits .or .u8 ((c.val : Nat) : Int) 32 = ((c.val ||| 32 : Nat) : Int) := by decide
  exact this ⟨c, h⟩

theorem hex_cases {c : UInt8} (h : isHex c = true) : (48 ≤ c.toNat ∧ c.toNat ≤ 57 ∧ hexd c = c.toNat - 48) ∨ (58 ≤ c.toNat ∧ 97 ≤ (c.toNat ||| 32) ∧ (c.toNat ||| 32) ≤ 102 ∧ hexd c = (c.toNat ||| 32) - 87) := by
  unfold isHex at h
  simp only [Bool.or_eq_true, Bool.and_eq_true, decide_eq_true_eq] at h
  rcases h with ⟨h1, h2⟩ | ⟨⟨h1, h2⟩, h3⟩
  · left; exact ⟨h1, h2, by unfold hexd; rw [if_pos h2]⟩
  · right; exact ⟨h3, h1, h2, by unfold hexd; rw [if_neg (by omega)]⟩

theorem hexd_lt {c : UInt8} (h : isHex c = true) : hexd c < 16 := by
  rcases hex_cases h with ⟨h1, h2, h3⟩ | ⟨h1, h2, h3, h4⟩ <;> omega

theorem fold_hex (l : List UInt8) : ∀ acc, l.foldl (fun n c => n * 16 + hexd c) acc = acc * 16 ^ l.length + hexN l := by
  induction l with
  | nil => intro acc; simp [hexN]
  | cons c r ih =>
    intro acc
    rw [List.foldl_cons, ih]
    have e : hexN (c :: r) = hexd c * 16 ^ r.length + hexN r := by
      show (c :: r).foldl (fun n c => n * 16 + hexd c) 0 = _
      rw [List.foldl_cons, ih]; simp
    rw [e, List.length_cons, Nat.pow_succ, Nat.add_mul, Nat.mul_assoc, Nat.mul_comm 16]
    omega
theorem hexN_cons (c : UInt8) (r : List UInt8) : hexN (c :: r) = hexd c * 16 ^ r.length + hexN r := by
  show (c :: r).foldl (fun n c => n * 16 + hexd c) 0 = _
  rw [List.foldl_cons, fold_hex]; simp
theorem hexN_lt' (l : List UInt8) (h : l.all isHex = true) : hexN l < 16 ^ l.length := by
  induction l with
  | nil => decide
  | cons c r ih =>
    simp only [List.all_cons, Bool.and_eq_true] at h
    have h1 := ih h.2
    have h2 := hexd_lt h.1
    rw [hexN_cons, List.length_cons, Nat.pow_succ]
    have h3 : hexd c * 16 ^ r.length ≤ 15 * 16 ^ r.length := Nat.mul_le_mul_right _ (by omega)
    omega
theorem hexN_lt (l : List UInt8) (h : l.all isHex = true) (k : Nat) (hk : l.length ≤ k) : hexN l < 16 ^ k :=
  Nat.lt_of_lt_of_le (hexN_lt' l h) (Nat.pow_le_pow_right (by decide) hk)

theorem take_snoc4 (t : ByteArray) (k : Nat) (h : k < t.size) : t.data.toList.take (k + 1) = t.data.toList.take k ++ [t.data.toList.getD k 0] := by
  have hl : k < t.data.toList.length := by simpa using h
  rw [List.take_succ_eq_append_getElem hl, List.getD_eq_getElem?_getD, List.getElem?_eq_getElem hl]; rfl
end Go.Proofs.Ytaflpeajapdkdaa
