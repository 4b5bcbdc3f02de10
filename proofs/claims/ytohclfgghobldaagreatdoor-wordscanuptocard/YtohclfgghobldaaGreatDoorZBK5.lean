import Derived.Test.YtohclfgghobldaaGreatDoorZBK3
namespace Go.Proofs.YtohclfgghobldaaGreatDoor
open Go.RowKit Go.Shelf
set_option linter.unusedVariables false
set_option linter.unusedSimpArgs false

/-- the first m tokens are the marks of list k -/
def Mks (k m : Nat) (L : List Value) : Prop := ∀ i, i < m → L[i * 4]? = some (.int .i64 (-10 - (k : Int))) ∧ L[i * 4 + 1]? = some (.int .i64 0) ∧ L[i * 4 + 2]? = some (.int .i64 0) ∧ L[i * 4 + 3]? = some (.string (wbK k i))
theorem Mks.zero (k : Nat) (L : List Value) : Mks k 0 L := fun i h => absurd h (Nat.not_lt_zero _)
theorem Mks.set {k m : Nat} {L : List Value} (h : Mks k m L) (hl : m * 4 + 3 < L.length) : Mks k (m + 1) ((((L.set (m * 4) (.int .i64 (-10 - (k : Int)))).set (m * 4 + 1) (.int .i64 0)).set (m * 4 + 2) (.int .i64 0)).set (m * 4 + 3) (.string (wbK k m))) := by
  intro i hi
  rcases Nat.lt_or_ge i m with h1 | h1
  · obtain ⟨a, b, c, d⟩ := h i h1
    refine ⟨?_, ?_, ?_, ?_⟩
    all_goals
      rw [List.getElem?_set_ne (by omega), List.getElem?_set_ne (by omega), List.getElem?_set_ne (by omega), List.getElem?_set_ne (by omega)]
      assumption
  · obtain rfl : i = m := by omega
    refine ⟨?_, ?_, ?_, ?_⟩
    · rw [List.getElem?_set_ne (by omega), List.getElem?_set_ne (by omega), List.getElem?_set_ne (by omega), List.getElem?_set_self (by omega)]
    · rw [List.getElem?_set_ne (by omega), List.getElem?_set_ne (by omega), List.getElem?_set_self (by simp; omega)]
    · rw [List.getElem?_set_ne (by omega), List.getElem?_set_self (by simp; omega)]
    · rw [List.getElem?_set_self (by simp; omega)]
theorem Mks.app {k m : Nat} {L : List Value} (h : Mks k m L) (hl : L.length = m * 4) : Mks k (m + 1) (L ++ [.int .i64 (-10 - (k : Int)), .int .i64 0, .int .i64 0, .string (wbK k m)]) := by
  intro i hi
  rcases Nat.lt_or_ge i m with h1 | h1
  · obtain ⟨a, b, c, d⟩ := h i h1
    refine ⟨?_, ?_, ?_, ?_⟩
    all_goals
      rw [List.getElem?_append_left (by omega)]
      assumption
  · obtain rfl : i = m := by omega
    refine ⟨?_, ?_, ?_, ?_⟩
    all_goals
      rw [List.getElem?_append_right (by omega), hl]
      simp
theorem ownZ_len {w : World} {B : Nat} {e : TypeId} {size : Nat} {v : Value} {n : Nat} {xs : List Value} (h : w.ownsRow B e size v n xs) : xs.length = n * size := h.1
theorem ownZ_at {w : World} {B : Nat} {e : TypeId} {size : Nat} {so : Option Addr} {n sc : Nat} {xs : List Value} (h : w.ownsRow B e size (.slice so n sc) n xs) (hn : 0 < n) : ∃ g, so = some ⟨g, 0, none⟩ ∧ B ≤ g ∧ n ≤ sc ∧ (∀ j x, xs[j]? = some x → w.cell? ⟨g, j, none⟩ = some x) ∧ ∀ j, w.frozen? ⟨g, j, none⟩ = false := by
  rcases h.2 with ⟨e, e2⟩ | ⟨g', cap', cur, e, hb, hg, h1, h2, h3, h4⟩
  · omega
  · simp only [Value.slice.injEq] at e
    obtain ⟨rfl, _, rfl⟩ := e
    refine ⟨g', rfl, hb, by omega, fun j x hx => ?_, fun j => frozen_of_row w g' j _ _ hg⟩
    rw [cell_of_row _ _ j _ _ _ hg]
    rw [← h4] at hx
    rw [List.getElem?_take] at hx
    split at hx
    · rw [← Array.getElem?_toList]; exact hx
    · cases hx
theorem ownZ_set {w : World} {B : Nat} {e : TypeId} {size n cap g k : Nat} {xs : List Value} (h : w.ownsRow B e size (.slice (some ⟨g, 0, none⟩) n cap) n xs) (hn : 0 < n) (x : Value) : (w.setCell ⟨g, k, none⟩ x).ownsRow B e size (.slice (some ⟨g, 0, none⟩) n cap) n (xs.set k x) := by
  refine ⟨by have := h.1; simp at this ⊢; exact this, ?_⟩
  rcases h.2 with ⟨e, e2⟩ | ⟨g', cap', cur, e, hb, hg, h1, h2, h3, h4⟩
  · omega
  · simp only [Value.slice.injEq] at e
    obtain ⟨e1, _, rfl⟩ := e
    have e1 : g = g' := by simpa using e1
    subst e1
    refine .inr ⟨g, cap, cur.setIfInBounds k x, rfl, hb, heap_setCell_same w g k _ _ _ hg, h1, h2, by simpa using h3, ?_⟩
    rw [Array.toList_setIfInBounds, List.take_set, h4]
end Go.Proofs.YtohclfgghobldaaGreatDoor
