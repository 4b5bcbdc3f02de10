import Derived.Test.YtdehejadiofomaaDoorD13
namespace Go.Proofs.YtdehejadiofomaaDoor
open Go.RowKit
set_option linter.unusedVariables false
set_option linter.unusedSimpArgs false

theorem escL_pre (x b : List UInt8) (k : Nat) : escL (x ++ b) (x.length + k) = ((escL b k).1, x.length + (escL b k).2.1, (escL b k).2.2) := by
  unfold escL
  rw [drop_pre, show x.length + k + 6 = x.length + (k + 6) by omega, drop_pre]
  split
  · simp [Nat.add_assoc]
  · split
    · rfl
    · split
      · simp [Nat.add_assoc]
      · split
        · rfl
        · split
          · simp [Nat.add_assoc]
          · rfl
theorem unqL_step {l : List UInt8} {p : Nat} (acc : List Nat) (h : p < l.length) : unqL l p acc =
    (if (decL (l.drop p)).1 = 34 then (acc, p + 1, 0)
    else if (decL (l.drop p)).1 < 32 then ([], p, 22)
    else if strayL (l.drop p) = true then ([], p, 20)
    else if (decL (l.drop p)).1 = 92 then
      (if (escL l p).2.2 = 0 then (if p < (escL l p).2.1 then unqL l (escL l p).2.1 (acc ++ [(escL l p).1]) else ([], 0, 0)) else ([], (escL l p).2.1, (escL l p).2.2))
    else (if 0 < (decL (l.drop p)).2 then unqL l (p + (decL (l.drop p)).2) (acc ++ [(decL (l.drop p)).1]) else ([], 0, 0))) := by
  rw [unqL, dif_pos h]
theorem unqL_pre (x b : List UInt8) : ∀ (n p : Nat) (acc : List Nat), b.length - p ≤ n → p ≤ b.length → unqL (x ++ b) (x.length + p) acc = ((unqL b p acc).1, x.length + (unqL b p acc).2.1, (unqL b p acc).2.2) := by
  intro n
  induction n with
  | zero =>
    intro p acc hn hp
    rw [unqL_end acc (by simp; omega), unqL_end acc (by omega)]
    simp
  | succ n ih =>
    intro p acc hn hp
    by_cases hlt : p < b.length
    · have e1 := unqL_step (l := x ++ b) (p := x.length + p) acc (by simp; omega)
      rw [drop_pre, escL_pre] at e1
      have e2 := unqL_step (l := b) acc hlt
      rw [e1, e2]
      by_cases h1 : (decL (b.drop p)).1 = 34
      · rw [if_pos h1, if_pos h1]; rfl
      · rw [if_neg h1, if_neg h1]
        by_cases h2 : (decL (b.drop p)).1 < 32
        · rw [if_pos h2, if_pos h2]
        · rw [if_neg h2, if_neg h2]
          by_cases h3 : strayL (b.drop p) = true
          · rw [if_pos h3, if_pos h3]
          · rw [if_neg h3, if_neg h3]
            by_cases h4 : (decL (b.drop p)).1 = 92
            · rw [if_pos h4, if_pos h4]
              dsimp only
              by_cases h5 : (escL b p).2.2 = 0
              · obtain ⟨g1, g2, _⟩ := escL_ok h5
                rw [if_pos h5, if_pos h5, if_pos g1, if_pos (by omega), ih _ _ (by omega) g2]
              · rw [if_neg h5, if_neg h5]
            · rw [if_neg h4, if_neg h4]
              have hz := decL_pos (b.drop p)
              have hst := decL_le (b.drop p) (fun e => by have := congrArg List.length e; rw [List.length_drop] at this; simp at this; omega)
              rw [List.length_drop] at hst
              rw [if_pos (by omega), if_pos (by omega), show x.length + p + (decL (b.drop p)).2 = x.length + (p + (decL (b.drop p)).2) by omega, ih _ _ (by omega) (by omega)]
    · rw [unqL_end acc (by simp; omega), unqL_end acc (by omega)]
      simp
theorem shiftT_err (m : Nat) (t : Tok) : (shiftT m t).err = t.err := by
  unfold shiftT
  split
  · next h => exact h.symm
  · rfl
theorem litT_pre {x b : List UInt8} {p : Nat} (hp : p < b.length) : litT (x ++ b) (x.length + p) = shiftT x.length (litT b p) := by
  unfold litT
  rw [show x.length + p + 1 = x.length + (p + 1) by omega, unqL_pre x b (b.length - (p + 1)) (p + 1) [] (Nat.le_refl _) (by omega)]
  dsimp only
  by_cases h : (unqL b (p + 1) []).2.2 = 0
  · rw [if_pos h, if_pos h]; rfl
  · rw [if_neg h, if_neg h]
    unfold shiftT
    rw [if_neg h]
theorem nextT_pre {x b : List UInt8} {p : Nat} (hp : p < b.length) : nextT (x ++ b) (x.length + p) = shiftT x.length (nextT b p) := by
  unfold nextT
  rw [getD_pre, litT_pre hp, wordT_pre hp, numeralT_pre hp]
  split
  · rfl
  · split
    · rfl
    · split
      · rfl
      · split <;> rfl
theorem restY_pre (x b : List UInt8) : ∀ (f p : Nat), p ≤ b.length → restY (x ++ b) f (x.length + p) = (restY b f p).map (shiftT x.length) := by
  intro f
  induction f with
  | zero => intro p _; rfl
  | succ f ih =>
    intro p hp
    rw [restY, restY]
    by_cases h : p < b.length
    · rw [if_pos h, if_pos (by simp; omega), nextT_pre h, shiftT_err]
      by_cases he : (nextT b p).err = 0
      · obtain ⟨u1, u2⟩ := nextT_up h he
        have hb := behL_ge (l := b) (p := (nextT b p).fin) cBl u2
        have hf : (shiftT x.length (nextT b p)).fin = x.length + (nextT b p).fin := by unfold shiftT; rw [if_pos he]
        rw [if_pos he, if_pos he, hf, behL_pre u2, ih _ hb.2]
        rfl
      · rw [if_neg he, if_neg he]; rfl
    · rw [if_neg h, if_neg (by simp; omega)]; rfl
end Go.Proofs.YtdehejadiofomaaDoor
