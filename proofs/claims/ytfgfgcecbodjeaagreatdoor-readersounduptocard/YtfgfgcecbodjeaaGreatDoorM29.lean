import Derived.Test.YtfgfgcecbodjeaaGreatDoorM28
namespace Go.Proofs.YtfgfgcecbodjeaaGreatDoor
open Go.RowKit Go.Shelf
set_option linter.unusedVariables false
set_option linter.unusedSimpArgs false

theorem enc_le4 (n : Nat) : (enc n).length ≤ 4 := by
  unfold enc
  repeat' split
  all_goals simp
theorem txt_le (zs : List Nat) : (txt zs).length ≤ 4 * zs.length := by
  induction zs with
  | nil => exact Nat.le_refl _
  | cons z zs ih =>
    have := enc_le4 z
    unfold txt at ih ⊢
    rw [List.flatMap_cons, List.length_append, List.length_cons]
    omega
theorem unqL_len (l : List UInt8) : ∀ (n p : Nat) (acc : List Nat), l.length - p ≤ n → p ≤ l.length → (unqL l p acc).1.length ≤ acc.length + (l.length - p) := by
  intro n
  induction n with
  | zero =>
    intro p acc hn hp
    rw [unqL_end acc (by omega)]
    exact Nat.zero_le _
  | succ n ih =>
    intro p acc hn hp
    by_cases hlt : p < l.length
    · rw [unqL, dif_pos hlt]
      split
      · show acc.length ≤ _; omega
      · split
        · exact Nat.zero_le _
        · split
          · exact Nat.zero_le _
          · split
            · split
              · next h5 =>
                obtain ⟨e1, e2, _⟩ := escL_ok h5
                rw [if_pos e1]
                have := ih (escL l p).2.1 (acc ++ [(escL l p).1]) (by omega) e2
                rw [List.length_append, List.length_singleton] at this
                omega
              · exact Nat.zero_le _
            · have hz := decL_pos (l.drop p)
              have hst := decL_le (l.drop p) (fun e => by have := congrArg List.length e; rw [List.length_drop] at this; simp at this; omega)
              rw [List.length_drop] at hst
              rw [if_pos (by omega)]
              have := ih (p + (decL (l.drop p)).2) (acc ++ [(decL (l.drop p)).1]) (by omega) (by omega)
              rw [List.length_append, List.length_singleton] at this
              omega
    · rw [unqL_end acc hlt]; exact Nat.zero_le _
theorem cut_len (l : List UInt8) (a b : Nat) : (cut l a b).length ≤ l.length := by
  unfold cut
  rw [List.length_take, List.length_drop]
  omega
theorem nextT_text {l : List UInt8} {p : Nat} (hp : p < l.length) : (nextT l p).text.length ≤ 4 * l.length := by
  unfold nextT
  split
  · exact Nat.zero_le _
  · split
    · unfold litT
      split
      · have h1 := txt_le (unqL l (p + 1) []).1
        have h2 := unqL_len l _ (p + 1) [] (Nat.le_refl _) hp
        rw [List.length_nil] at h2
        show (txt _).length ≤ _
        omega
      · exact Nat.zero_le _
    · split
      · unfold wordT
        repeat' split
        all_goals exact Nat.zero_le _
      · split
        · unfold numeralT
          split
          · show (numT _).length ≤ _
            have := cut_len l p (behL l p cNm)
            unfold numT
            split
            · show 1 ≤ _; omega
            · omega
          · exact Nat.zero_le _
        · exact Nat.zero_le _
theorem mustL_text {l : List UInt8} {p q : Nat} {t : Tok} (h : mustL l p = .ok t q) : t.text.length ≤ 4 * l.length := by
  unfold mustL at h
  split at h
  · next h1 =>
    split at h
    · injection h with e1 e2
      rw [← e1]; exact nextT_text h1
    · cases h
  · cases h
end Go.Proofs.YtfgfgcecbodjeaaGreatDoor
