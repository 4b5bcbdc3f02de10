import Derived.Test.YtcadknhedfnaoaaGreatDoorM11
import Derived.Test.YtcadknhedfnaoaaGreatDoorM14
namespace Go.Proofs.YtcadknhedfnaoaaGreatDoor
open Go.RowKit
set_option linter.unusedVariables false
set_option linter.unusedSimpArgs false

/-- the rune of a short escape's letter -/
def shN (c : UInt8) : Option Nat := if c = 34 then some 34 else if c = 92 then some 92 else if c = 47 then some 47 else if c = 98 then some 8 else if c = 102 then some 12 else if c = 110 then some 10 else if c = 114 then some 13 else if c = 116 then some 9 else none
def shortL (l : List UInt8) : Option Nat := if l.getD 0 0 = 92 ∧ 2 ≤ l.length then shN (l.getD 1 0) else none
def numL (l : List UInt8) : Option Nat := if 6 ≤ l.length ∧ l.getD 0 0 = 92 ∧ l.getD 1 0 = 117 ∧ ((l.drop 2).take 4).all isHex = true then some (hexN ((l.drop 2).take 4)) else none
/-- rune, place, code -/
def escL (l : List UInt8) (k : Nat) : Nat × Nat × Nat :=
  match shortL (l.drop k) with
  | some r => (r, k + 2, 0)
  | none => match numL (l.drop k) with
    | none => (0, k, 23)
    | some n => if n < 55296 ∨ 57344 ≤ n then (n, k + 6, 0) else
      match numL (l.drop (k + 6)) with
      | none => (0, k, 24)
      | some m => if n < 56320 ∧ 56320 ≤ m ∧ m < 57344 then (65536 + (n - 55296) * 1024 + (m - 56320), k + 12, 0) else (0, k, 24)

def unqL (l : List UInt8) (p : Nat) (acc : List Nat) : List Nat × Nat × Nat :=
  if h : p < l.length then
    if (decL (l.drop p)).1 = 34 then (acc, p + 1, 0)
    else if (decL (l.drop p)).1 < 32 then ([], p, 22)
    else if strayL (l.drop p) = true then ([], p, 20)
    else if (decL (l.drop p)).1 = 92 then
      (if (escL l p).2.2 = 0 then (if p < (escL l p).2.1 then unqL l (escL l p).2.1 (acc ++ [(escL l p).1]) else ([], 0, 0)) else ([], (escL l p).2.1, (escL l p).2.2))
    else (if 0 < (decL (l.drop p)).2 then unqL l (p + (decL (l.drop p)).2) (acc ++ [(decL (l.drop p)).1]) else ([], 0, 0))
  else ([], l.length, 21)
termination_by l.length - p

theorem unqL_end {l : List UInt8} {p : Nat} (acc : List Nat) (h : ¬ p < l.length) : unqL l p acc = ([], l.length, 21) := by rw [unqL, dif_neg h]
theorem unqL_quote {l : List UInt8} {p : Nat} (acc : List Nat) (h : p < l.length) (h1 : (decL (l.drop p)).1 = 34) : unqL l p acc = (acc, p + 1, 0) := by rw [unqL, dif_pos h, if_pos h1]
theorem unqL_ctl {l : List UInt8} {p : Nat} (acc : List Nat) (h : p < l.length) (h1 : ¬ (decL (l.drop p)).1 = 34) (h2 : (decL (l.drop p)).1 < 32) : unqL l p acc = ([], p, 22) := by rw [unqL, dif_pos h, if_neg h1, if_pos h2]
theorem unqL_stray {l : List UInt8} {p : Nat} (acc : List Nat) (h : p < l.length) (h1 : ¬ (decL (l.drop p)).1 = 34) (h2 : ¬ (decL (l.drop p)).1 < 32) (h3 : strayL (l.drop p) = true) : unqL l p acc = ([], p, 20) := by rw [unqL, dif_pos h, if_neg h1, if_neg h2, if_pos h3]
theorem unqL_esc {l : List UInt8} {p : Nat} (acc : List Nat) (h : p < l.length) (h3 : strayL (l.drop p) = false) (h4 : (decL (l.drop p)).1 = 92) : unqL l p acc = (if (escL l p).2.2 = 0 then (if p < (escL l p).2.1 then unqL l (escL l p).2.1 (acc ++ [(escL l p).1]) else ([], 0, 0)) else ([], (escL l p).2.1, (escL l p).2.2)) := by
  rw [unqL, dif_pos h, if_neg (by omega), if_neg (by omega), if_neg (by rw [h3]; decide), if_pos h4]
theorem unqL_rune {l : List UInt8} {p : Nat} (acc : List Nat) (h : p < l.length) (h1 : ¬ (decL (l.drop p)).1 = 34) (h2 : ¬ (decL (l.drop p)).1 < 32) (h3 : strayL (l.drop p) = false) (h4 : ¬ (decL (l.drop p)).1 = 92) : unqL l p acc = unqL l (p + (decL (l.drop p)).2) (acc ++ [(decL (l.drop p)).1]) := by
  have := decL_pos (l.drop p)
  rw [unqL, dif_pos h, if_neg h1, if_neg h2, if_neg (by rw [h3]; decide), if_neg h4, if_pos (by omega)]

theorem hex_ascii {c : UInt8} (h : isHex c = true) : c.toNat < 128 := by
  rcases hex_cases h with h1 | h1
  · omega
  · have : c.toNat ≤ (c.toNat ||| 32) := Nat.left_le_or
    omega
theorem shN_ok {c : UInt8} {r : Nat} (h : shN c = some r) : c.toNat < 128 ∧ r < 128 ∧ c ≠ 117 := by
  unfold shN at h
  repeat' split at h
  all_goals first | cases h | skip
  all_goals (rename_i hc; subst hc; exact ⟨by decide, by decide, by decide⟩)

theorem getD_dropL (l : List UInt8) (k j : Nat) : (l.drop k).getD j 0 = l.getD (k + j) 0 := by simp [List.getD, List.getElem?_drop]
/-- the letters of an escape by number -/
theorem numL_ok {l : List UInt8} {k n : Nat} (h : numL (l.drop k) = some n) : k + 6 ≤ l.length ∧ n < 65536 ∧ (∀ j, k ≤ j → j < k + 6 → (l.getD j 0).toNat < 128) ∧ l.getD k 0 = 92 ∧ l.getD (k + 1) 0 = 117 := by
  unfold numL at h
  split at h
  · rename_i hc
    obtain ⟨h1, h2, h3, h4⟩ := hc
    rw [List.length_drop] at h1
    have hl : k + 6 ≤ l.length := by omega
    have e : n = hexN (((l.drop k).drop 2).take 4) := (Option.some.inj h).symm
    have hlen : (((l.drop k).drop 2).take 4).length = 4 := by simp; omega
    rw [getD_dropL] at h2 h3
    refine ⟨hl, ?_, ?_, h2, h3⟩
    · rw [e]; exact hexN_lt _ h4 4 (by omega)
    · intro j hj1 hj2
      by_cases a : j = k
      · subst a; rw [Nat.add_zero] at h2; rw [h2]; decide
      by_cases b : j = k + 1
      · subst b; rw [h3]; decide
      have hm := List.all_eq_true.1 h4 (l.getD j 0) (by
        have : l.getD j 0 = (((l.drop k).drop 2).take 4)[j - k - 2]'(by omega) := by
          simp [List.getElem_take, List.getElem_drop, List.getD]
          have e2 : k + (2 + (j - k - 2)) = j := by omega
          rw [List.getElem?_eq_getElem (by omega)]
          have e3 : k + 2 + (j - k - 2) = j := by omega
          simp [e2, e3]
        rw [this]; exact List.getElem_mem _)
      exact hex_ascii hm
  · cases h
theorem shortL_ok {l : List UInt8} {k r : Nat} (h : shortL (l.drop k) = some r) : k + 2 ≤ l.length ∧ r < 128 ∧ (∀ j, k ≤ j → j < k + 2 → (l.getD j 0).toNat < 128) ∧ l.getD k 0 = 92 ∧ shN (l.getD (k + 1) 0) = some r := by
  unfold shortL at h
  split at h
  · rename_i hc
    obtain ⟨h1, h2⟩ := hc
    rw [getD_dropL] at h1 h
    rw [List.length_drop] at h2
    have := shN_ok h
    refine ⟨by omega, this.2.1, ?_, h1, h⟩
    intro j hj1 hj2
    by_cases a : j = k
    · subst a; rw [Nat.add_zero] at h1; rw [h1]; decide
    · obtain rfl : j = k + 1 := by omega
      exact this.1
  · cases h
theorem escL_ok {l : List UInt8} {k : Nat} (h : (escL l k).2.2 = 0) : k < (escL l k).2.1 ∧ (escL l k).2.1 ≤ l.length ∧ isR (escL l k).1 ∧ ∀ j, k ≤ j → j < (escL l k).2.1 → (l.getD j 0).toNat < 128 := by
  unfold escL at h ⊢
  cases hs : shortL (l.drop k) with
  | some r =>
    rw [hs] at h
    obtain ⟨h1, h2, h3, _⟩ := shortL_ok hs
    exact ⟨by show k < k + 2; omega, h1, .inl (by show r < _; omega), h3⟩
  | none =>
    rw [hs] at h
    cases hn : numL (l.drop k) with
    | none => rw [hn] at h; simp at h
    | some n =>
      rw [hn] at h
      obtain ⟨h1, h2, h3, _⟩ := numL_ok hn
      simp only at h ⊢
      by_cases hc : n < 55296 ∨ 57344 ≤ n
      · rw [if_pos hc]
        exact ⟨by show k < k + 6; omega, h1, by show isR n; unfold isR; omega, h3⟩
      · rw [if_neg hc] at h ⊢
        cases hm : numL (l.drop (k + 6)) with
        | none => rw [hm] at h; simp at h
        | some m =>
          rw [hm] at h
          obtain ⟨g1, g2, g3, _⟩ := numL_ok hm
          simp only at h ⊢
          by_cases hd : n < 56320 ∧ 56320 ≤ m ∧ m < 57344
          · rw [if_pos hd]
            refine ⟨by show k < k + 12; omega, by show k + 12 ≤ _; omega, by show isR _; unfold isR; omega, fun j hj1 hj2 => ?_⟩
            have hj2' : j < k + 12 := hj2
            rcases Nat.lt_or_ge j (k + 6) with g | g
            · exact h3 j hj1 g
            · exact g3 j g (by omega)
          · rw [if_neg hd] at h; simp at h
theorem escL_code (l : List UInt8) (k : Nat) : ((escL l k).2.2 = 0) ∨ ((escL l k).2.2 = 23 ∧ (escL l k).1 = 0 ∧ (escL l k).2.1 = k) ∨ ((escL l k).2.2 = 24 ∧ (escL l k).1 = 0 ∧ (escL l k).2.1 = k) := by
  unfold escL
  repeat' split
  all_goals simp
theorem dec_asciiD {l : List UInt8} {k : Nat} (hk : k < l.length) (h : (l.getD k 0).toNat < 128) : decL (l.drop k) = ((l.getD k 0).toNat, 1) := by
  rw [List.drop_eq_getElem_cons hk]
  have e : l.getD k 0 = l[k] := by simp [List.getD, hk]
  rw [e] at h ⊢
  exact dec1 _ rfl h
end Go.Proofs.YtcadknhedfnaoaaGreatDoor
namespace Go.Proofs.YtcadknhedfnaoaaGreatDoor
open Go.RowKit
set_option linter.unusedVariables false
set_option linter.unusedSimpArgs false


/-- what Escape answers -/
def EscX (s : ByteArray) (k : Nat) (w w' : World) (e : Ending) : Prop := e = .returned (.tuple #[.int .i32 ((escL s.data.toList k).1 : Int), .int .i64 ((escL s.data.toList k).2.1 : Int), .int .i64 ((escL s.data.toList k).2.2 : Int)]) ∧ Below w.heap.size w w'

end Go.Proofs.YtcadknhedfnaoaaGreatDoor
namespace Go.Proofs.YtcadknhedfnaoaaGreatDoor
open Go.RowKit
set_option linter.unusedVariables false
set_option linter.unusedSimpArgs false

theorem escX_mk {s : ByteArray} {k : Nat} {w w' : World} {a p c : Nat} {r q z : Int} (h : escL s.data.toList k = (a, p, c)) (hr : r = (a : Int)) (hq : q = (p : Int)) (hz : z = (c : Int)) (hb : Below w.heap.size w w') : EscX s k w w' (.returned (.tuple #[.int .i32 r, .int .i64 q, .int .i64 z])) := by
  subst hr hq hz
  exact ⟨by rw [h], hb⟩
theorem escL_short {l : List UInt8} {k x : Nat} (h : shortL (l.drop k) = some x) : escL l k = (x, k + 2, 0) := by unfold escL; rw [h]
theorem escL_none {l : List UInt8} {k : Nat} (h : shortL (l.drop k) = none) (h2 : numL (l.drop k) = none) : escL l k = (0, k, 23) := by unfold escL; rw [h, h2]
theorem escL_one {l : List UInt8} {k n : Nat} (h : shortL (l.drop k) = none) (h2 : numL (l.drop k) = some n) (h3 : n < 55296 ∨ 57344 ≤ n) : escL l k = (n, k + 6, 0) := by unfold escL; rw [h, h2]; exact if_pos h3
theorem escL_low {l : List UInt8} {k n : Nat} (h : shortL (l.drop k) = none) (h2 : numL (l.drop k) = some n) (h3 : 56320 ≤ n) (h4 : n < 57344) : escL l k = (0, k, 24) := by
  unfold escL; rw [h, h2]
  simp only
  rw [if_neg (by omega)]
  split
  · rfl
  · rw [if_neg (by omega)]
theorem escL_alone {l : List UInt8} {k n : Nat} (h : shortL (l.drop k) = none) (h2 : numL (l.drop k) = some n) (h3 : 55296 ≤ n) (h4 : n < 57344) (h5 : numL (l.drop (k + 6)) = none) : escL l k = (0, k, 24) := by
  unfold escL; rw [h, h2]
  simp only
  rw [if_neg (by omega), h5]
theorem escL_bad {l : List UInt8} {k n m : Nat} (h : shortL (l.drop k) = none) (h2 : numL (l.drop k) = some n) (h3 : 55296 ≤ n) (h4 : n < 57344) (h5 : numL (l.drop (k + 6)) = some m) (h6 : ¬ (56320 ≤ m ∧ m < 57344)) : escL l k = (0, k, 24) := by
  unfold escL; rw [h, h2]
  simp only
  rw [if_neg (by omega), h5]
  simp only
  rw [if_neg (by omega)]
theorem escL_two {l : List UInt8} {k n m : Nat} (h : shortL (l.drop k) = none) (h2 : numL (l.drop k) = some n) (h3 : 55296 ≤ n) (h4 : n < 56320) (h5 : numL (l.drop (k + 6)) = some m) (h6 : 56320 ≤ m) (h7 : m < 57344) : escL l k = (65536 + (n - 55296) * 1024 + (m - 56320), k + 12, 0) := by
  unfold escL; rw [h, h2]
  simp only
  rw [if_neg (by omega), h5]
  simp only
  rw [if_pos (by omega)]
end Go.Proofs.YtcadknhedfnaoaaGreatDoor
