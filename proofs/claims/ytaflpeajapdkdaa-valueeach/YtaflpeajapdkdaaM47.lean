import Derived.Test.YtaflpeajapdkdaaM12
namespace Go.Proofs.Ytaflpeajapdkdaa
open Go.RowKit
set_option linter.unusedVariables false
set_option linter.unusedSimpArgs false

theorem form_items {h : Nat} {T : VT} (hf : formN (h + 1) T = true) (hk : T.kind = 5 ∨ T.kind = 6) : ∀ i, (hi : i < T.items.length) → formN h T.items[i] = true := by
  intro i hi
  have : T.items.all (formN h) = true := by
    unfold formN formV at hf
    rcases hk with e | e
    · rw [e] at hf; simp only [show ¬ ((5 : Int) = 0 ∨ (5 : Int) = 1 ∨ (5 : Int) = 2) by omega, show ¬ (5 : Int) = 3 by omega, show ¬ (5 : Int) = 4 by omega, if_false, if_true, Bool.and_eq_true] at hf; exact hf.1
    · rw [e] at hf; simp only [show ¬ ((6 : Int) = 0 ∨ (6 : Int) = 1 ∨ (6 : Int) = 2) by omega, show ¬ (6 : Int) = 3 by omega, show ¬ (6 : Int) = 4 by omega, show ¬ (6 : Int) = 5 by omega, if_false, if_true, Bool.and_eq_true] at hf; exact hf.1.2
  exact List.all_eq_true.1 this _ (List.getElem_mem hi)
theorem form_kind {h : Nat} {T : VT} (hf : formN (h + 1) T = true) : (0 ≤ T.kind ∧ T.kind < 5) ∨ T.kind = 5 ∨ T.kind = 6 := by
  by_cases h5 : T.kind = 5
  · exact .inr (.inl h5)
  by_cases h6 : T.kind = 6
  · exact .inr (.inr h6)
  left
  unfold formN formV at hf
  by_cases h0 : T.kind = 0 ∨ T.kind = 1 ∨ T.kind = 2
  · omega
  by_cases h3 : T.kind = 3
  · omega
  by_cases h4 : T.kind = 4
  · omega
  simp [h0, h3, h4, h5, h6] at hf
theorem form_flat {h : Nat} {T : VT} (hf : formN (h + 1) T = true) (hk : T.kind ≠ 5) (hk' : T.kind ≠ 6) : T.items.length = 0 ∧ T.keys.length = 0 := by
  unfold formN formV bareB at hf
  by_cases h0 : T.kind = 0 ∨ T.kind = 1 ∨ T.kind = 2
  · rw [if_pos h0] at hf
    simp only [Bool.and_eq_true, decide_eq_true_eq] at hf
    exact ⟨hf.1.2, hf.2⟩
  rw [if_neg h0] at hf
  by_cases h3 : T.kind = 3
  · rw [if_pos h3] at hf
    simp only [Bool.and_eq_true, decide_eq_true_eq] at hf
    exact ⟨hf.2.1.2, hf.2.2⟩
  rw [if_neg h3] at hf
  by_cases h4 : T.kind = 4
  · rw [if_pos h4] at hf
    simp only [Bool.and_eq_true, decide_eq_true_eq] at hf
    exact ⟨hf.2.1.2, hf.2.2⟩
  rw [if_neg h4, if_neg hk, if_neg hk'] at hf
  cases hf
theorem form_num {h : Nat} {T : VT} (hf : formN (h + 1) T = true) (hk : T.kind = 3) : Pl.formed T.num.data.toList = true := by
  unfold formN formV at hf
  rw [hk] at hf
  simp only [show ¬ ((3 : Int) = 0 ∨ (3 : Int) = 1 ∨ (3 : Int) = 2) by omega, if_false, if_true, Bool.and_eq_true] at hf
  exact hf.1
theorem emp_size {b : ByteArray} (h : b.toList.isEmpty = true) : b.size = 0 := by
  rw [Lib.toList_data, List.isEmpty_iff] at h
  rw [← sizeLn, h]; rfl
theorem form_empty {h : Nat} {T : VT} (hf : formN (h + 1) T = true) : (T.kind ≠ 3 → T.num.size = 0) ∧ (T.kind ≠ 4 → T.text.size = 0) ∧ (T.kind ≠ 6 → T.keys.length = 0) ∧ (T.kind = 6 → T.keys.length = T.items.length) := by
  unfold formN formV bareB at hf
  by_cases h0 : T.kind = 0 ∨ T.kind = 1 ∨ T.kind = 2
  · rw [if_pos h0] at hf
    simp only [Bool.and_eq_true, decide_eq_true_eq] at hf
    exact ⟨fun _ => emp_size hf.1.1.1, fun _ => emp_size hf.1.1.2, fun _ => hf.2, fun e => by omega⟩
  rw [if_neg h0] at hf
  by_cases h3 : T.kind = 3
  · rw [if_pos h3] at hf
    simp only [Bool.and_eq_true, decide_eq_true_eq] at hf
    exact ⟨fun e => absurd h3 e, fun _ => emp_size hf.2.1.1.2, fun _ => hf.2.2, fun e => by omega⟩
  rw [if_neg h3] at hf
  by_cases h4 : T.kind = 4
  · rw [if_pos h4] at hf
    simp only [Bool.and_eq_true, decide_eq_true_eq] at hf
    exact ⟨fun _ => emp_size hf.2.1.1.1, fun e => absurd h4 e, fun _ => hf.2.2, fun e => by omega⟩
  rw [if_neg h4] at hf
  by_cases h5 : T.kind = 5
  · rw [if_pos h5] at hf
    simp only [Bool.and_eq_true, decide_eq_true_eq] at hf
    exact ⟨fun _ => emp_size hf.2.1.1.1, fun _ => emp_size hf.2.1.1.2, fun _ => hf.2.2, fun e => by omega⟩
  rw [if_neg h5] at hf
  by_cases h6 : T.kind = 6
  · rw [if_pos h6] at hf
    simp only [Bool.and_eq_true, decide_eq_true_eq] at hf
    exact ⟨fun _ => emp_size hf.2.1.1.1, fun _ => emp_size hf.2.1.1.2, fun e => absurd h6 e, fun _ => hf.1.1.1⟩
  rw [if_neg h6] at hf
  cases hf
end Go.Proofs.Ytaflpeajapdkdaa
