import Derived.Test.YtdehejadiofomaaDoorD10
namespace Go.Proofs.YtdehejadiofomaaDoor
open Go.RowKit Go.Shelf
set_option linter.unusedVariables false
set_option linter.unusedSimpArgs false

theorem nextT_at {l : List UInt8} {p : Nat} (h : (nextT l p).err = 0) : (nextT l p).at_ = p := by
  unfold nextT at h ⊢
  split
  · rfl
  · next h1 =>
    rw [if_neg h1] at h
    split
    · next h2 =>
      rw [if_pos h2] at h
      unfold litT at h ⊢
      split
      · rfl
      · next h3 => rw [if_neg h3] at h; exact absurd h h3
    · next h2 =>
      rw [if_neg h2] at h
      split
      · unfold wordT
        split
        · rfl
        · split
          · rfl
          · split <;> rfl
      · split
        · unfold numeralT
          split <;> rfl
        · rfl

/-- each token's place is behind the blanks that follow the last one -/
def Good (l : List UInt8) : Nat → List Tok → Prop
  | a, [] => behL l a cBl = l.length
  | a, t :: r => t.at_ = behL l a cBl ∧ t.at_ < t.fin ∧ t.fin ≤ l.length ∧ Good l t.fin r
theorem good_rest (l : List UInt8) : ∀ (f a : Nat), a ≤ l.length → l.length - behL l a cBl < f → (∀ t ∈ restY l f (behL l a cBl), t.err = 0) → Good l a (restY l f (behL l a cBl)) := by
  intro f
  induction f with
  | zero => intro a _ h; omega
  | succ f ih =>
    intro a ha hf hall
    have hb := behL_ge (l := l) (p := a) cBl ha
    rw [restY] at hall ⊢
    by_cases hp : behL l a cBl < l.length
    · rw [if_pos hp] at hall ⊢
      by_cases he : (nextT l (behL l a cBl)).err = 0
      · rw [if_pos he] at hall ⊢
        obtain ⟨u1, u2⟩ := nextT_up hp he
        have hb2 := behL_ge (l := l) (p := (nextT l (behL l a cBl)).fin) cBl u2
        refine ⟨nextT_at he, by rw [nextT_at he]; exact u1, u2, ih _ u2 (by omega) fun t ht => hall t (List.mem_cons_of_mem _ ht)⟩
      · rw [if_neg he] at hall
        exact absurd (hall _ (List.mem_singleton.2 rfl)) he
    · rw [if_neg hp]
      show behL l a cBl = l.length
      omega
theorem good_all {l : List UInt8} (h : ∀ t ∈ allY l, t.err = 0) : Good l 0 (allY l) := by
  have hb := behL_ge (l := l) (p := 0) cBl (Nat.zero_le _)
  exact good_rest l (l.length + 1) 0 (Nat.zero_le _) (by omega) h

theorem drop_blank (p : UInt8 → Bool) : ∀ (m : List UInt8) (j : Nat), j < m.length - (m.dropWhile p).length → p (m.getD j 0) = true := by
  intro m
  induction m with
  | nil => intro j h; simp at h
  | cons c r ih =>
    intro j h
    rw [List.dropWhile_cons] at h
    split at h
    · next hc =>
      cases j with
      | zero => exact hc
      | succ j =>
        have := ih j (by rw [List.length_cons] at h; have := dropWhile_le p r; omega)
        simpa using this
    · simp at h
theorem beh_blank {l : List UInt8} {a k : Nat} (ha : a ≤ k) (hk : k < behL l a cBl) : cBl.contains (l.getD k 0) = true := by
  unfold behL at hk
  have := drop_blank (cBl.contains ·) (l.drop a) (k - a) (by rw [List.length_drop]; omega)
  rw [show (l.drop a).getD (k - a) 0 = l.getD k 0 by rw [List.getD, List.getD, List.getElem?_drop, show a + (k - a) = k by omega]] at this
  exact this
theorem blank4 {c : UInt8} (h : cBl.contains c = true) : c.toNat = 32 ∨ c.toNat = 9 ∨ c.toNat = 10 ∨ c.toNat = 13 := by
  simp only [cBl, List.contains_cons, List.contains_nil, Bool.or_false, Bool.or_eq_true, beq_iff_eq] at h
  rcases h with rfl | rfl | rfl | rfl
  · exact .inl rfl
  · exact .inr (.inl rfl)
  · exact .inr (.inr (.inl rfl))
  · exact .inr (.inr (.inr rfl))

theorem restY_len (l : List UInt8) : ∀ (f p : Nat), (restY l f p).length ≤ l.length - p := by
  intro f
  induction f with
  | zero => intro p; rw [restY]; simp
  | succ f ih =>
    intro p
    rw [restY]
    by_cases hp : p < l.length
    · rw [if_pos hp]
      by_cases he : (nextT l p).err = 0
      · rw [if_pos he, List.length_cons]
        obtain ⟨u1, u2⟩ := nextT_up hp he
        have hb := behL_ge (l := l) (p := (nextT l p).fin) cBl u2
        have := ih (behL l (nextT l p).fin cBl)
        omega
      · rw [if_neg he]; simp; omega
    · rw [if_neg hp]; simp
theorem allY_len (l : List UInt8) : (allY l).length ≤ l.length := by
  have := restY_len l (l.length + 1) (behL l 0 cBl)
  unfold allY
  omega

/-- where the loop stands -/
def PlS (l : List UInt8) (k p : Nat) : Prop := ∃ pre rest, allY l = pre ++ rest ∧ pre.length = k ∧ Good l p rest
theorem PlS.more {l : List UInt8} {k p : Nat} (h : PlS l k p) (hk : k < (allY l).length) : (allY l)[k].at_ = behL l p cBl ∧ (allY l)[k].at_ < (allY l)[k].fin ∧ (allY l)[k].fin ≤ l.length ∧ PlS l (k + 1) (allY l)[k].fin := by
  obtain ⟨pre, rest, e, rfl, hg⟩ := h
  cases rest with
  | nil => rw [e] at hk; simp at hk
  | cons t r =>
    have et : (allY l)[pre.length] = t := by simp [e]
    rw [et]
    obtain ⟨g1, g2, g3, g4⟩ := hg
    exact ⟨g1, g2, g3, pre ++ [t], r, by rw [e]; simp, by simp, g4⟩
theorem PlS.last {l : List UInt8} {k p : Nat} (h : PlS l k p) (hk : k = (allY l).length) : behL l p cBl = l.length := by
  obtain ⟨pre, rest, e, rfl, hg⟩ := h
  cases rest with
  | nil => exact hg
  | cons t r => rw [e] at hk; simp at hk
end Go.Proofs.YtdehejadiofomaaDoor
