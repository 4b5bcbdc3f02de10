import Derived.Test.YtdehejadiofomaaDoorD14
namespace Go.Proofs.YtdehejadiofomaaDoor
open Go.RowKit
set_option linter.unusedVariables false
set_option linter.unusedSimpArgs false

theorem dec_app {x : List UInt8} (y : List UInt8) (hx : x ≠ []) (hs : strayL x = false) : decL (x ++ y) = decL x ∧ strayL (x ++ y) = false := by
  rcases stray_or x hx with ⟨n, post, hn, rfl, _⟩ | ⟨_, h⟩
  · rw [List.append_assoc, dec_enc n hn, dec_enc n hn]
    exact ⟨rfl, stray_enc n hn _⟩
  · rw [h] at hs; cases hs
theorem shortL_app {x : List UInt8} (y : List UInt8) (h : 2 ≤ x.length) : shortL (x ++ y) = shortL x := by
  unfold shortL
  rw [getD_app (by omega), getD_app (by omega)]
  have : 2 ≤ (x ++ y).length := by simp; omega
  simp only [this, h, and_true]
theorem numL_app {x : List UInt8} (y : List UInt8) (h : 6 ≤ x.length) : numL (x ++ y) = numL x := by
  unfold numL
  rw [getD_app (by omega), getD_app (by omega), List.drop_append_of_le_length (by omega), List.take_append_of_le_length (by rw [List.length_drop]; omega)]
  have : 6 ≤ (x ++ y).length := by simp; omega
  simp only [this, h, true_and]
theorem shortL_len {x : List UInt8} {r : Nat} (h : shortL x = some r) : 2 ≤ x.length := by
  unfold shortL at h
  split at h
  · next h1 => exact h1.2
  · cases h
theorem numL_len {x : List UInt8} {r : Nat} (h : numL x = some r) : 6 ≤ x.length := by
  unfold numL at h
  split at h
  · next h1 => exact h1.1
  · cases h
theorem escL_app {a : List UInt8} (y : List UInt8) {k : Nat} (hk : k ≤ a.length) (h : (escL a k).2.2 = 0) : escL (a ++ y) k = escL a k := by
  unfold escL at h ⊢
  rw [List.drop_append_of_le_length hk]
  cases hs : shortL (a.drop k) with
  | some r => rw [shortL_app y (shortL_len hs), hs]
  | none =>
    rw [hs] at h
    dsimp only at h
    cases hn : numL (a.drop k) with
    | none => rw [hn] at h; cases h
    | some n =>
      have h6 := numL_len hn
      rw [hn] at h
      dsimp only at h
      rw [shortL_app y (by omega), hs, numL_app y h6, hn]
      dsimp only
      rw [List.length_drop] at h6
      split
      · rfl
      · next hc =>
        rw [if_neg hc] at h
        cases hm : numL (a.drop (k + 6)) with
        | none => rw [hm] at h; cases h
        | some m => rw [List.drop_append_of_le_length (by omega), numL_app y (numL_len hm), hm]
theorem unqL_app {a : List UInt8} (y : List UInt8) : ∀ (n p : Nat) (acc : List Nat), a.length - p ≤ n → (unqL a p acc).2.2 = 0 → unqL (a ++ y) p acc = unqL a p acc := by
  intro n
  induction n with
  | zero => intro p acc hn h0; rw [unqL_end acc (by omega)] at h0; cases h0
  | succ n ih =>
    intro p acc hn h0
    by_cases hlt : p < a.length
    · have hne : a.drop p ≠ [] := fun e => by have := congrArg List.length e; rw [List.length_drop] at this; simp at this; omega
      have e2 := unqL_step (l := a) acc hlt
      have hs : strayL (a.drop p) = false := by
        cases hst : strayL (a.drop p) with
        | false => rfl
        | true =>
          exfalso
          rcases stray_or (a.drop p) hne with ⟨_, _, _, _, h⟩ | ⟨hd, _⟩
          · rw [h] at hst; cases hst
          · rw [e2, if_neg (by rw [hd]; decide), if_neg (by rw [hd]; decide), if_pos hst] at h0
            cases h0
      obtain ⟨d1, d2⟩ := dec_app y hne hs
      have e1 := unqL_step (l := a ++ y) (p := p) acc (by simp; omega)
      rw [List.drop_append_of_le_length (Nat.le_of_lt hlt), d1] at e1
      rw [e2] at h0
      rw [e1, e2]
      by_cases h1 : (decL (a.drop p)).1 = 34
      · rw [if_pos h1, if_pos h1]
      · rw [if_neg h1] at h0
        rw [if_neg h1, if_neg h1]
        by_cases h2 : (decL (a.drop p)).1 < 32
        · rw [if_pos h2] at h0; cases h0
        · rw [if_neg h2] at h0
          rw [if_neg h2, if_neg h2]
          rw [if_neg (show ¬ strayL (a.drop p) = true by rw [hs]; decide)] at h0
          rw [if_neg (show ¬ strayL (a.drop p ++ y) = true by rw [d2]; decide), if_neg (show ¬ strayL (a.drop p) = true by rw [hs]; decide)]
          by_cases h4 : (decL (a.drop p)).1 = 92
          · rw [if_pos h4] at h0
            rw [if_pos h4, if_pos h4]
            by_cases h5 : (escL a p).2.2 = 0
            · obtain ⟨g1, g2, _⟩ := escL_ok h5
              rw [if_pos h5, if_pos g1] at h0
              rw [escL_app y (Nat.le_of_lt hlt) h5, if_pos h5, if_pos h5, if_pos g1, if_pos g1, ih _ _ (by omega) h0]
            · rw [if_neg h5] at h0; exact absurd h0 h5
          · rw [if_neg h4] at h0
            rw [if_neg h4, if_neg h4]
            have hz := decL_pos (a.drop p)
            rw [if_pos (by omega)] at h0
            rw [if_pos (by omega), if_pos (by omega), ih _ _ (by omega) h0]
    · rw [unqL_end acc hlt] at h0; cases h0
theorem litT_app {a : List UInt8} (y : List UInt8) {p : Nat} (h : (litT a p).err = 0) : litT (a ++ y) p = litT a p := by
  have hu : (unqL a (p + 1) []).2.2 = 0 := by
    unfold litT at h
    split at h
    · assumption
    · exact h
  unfold litT
  rw [unqL_app y (a.length - (p + 1)) (p + 1) [] (Nat.le_refl _) hu]
theorem nextT_app {a b : List UInt8} {p : Nat} (hp : p < a.length) (h : (nextT a p).err = 0) : nextT (a ++ 10 :: b) p = nextT a p := by
  unfold nextT at h ⊢
  rw [getD_app hp, wordT_app hp, numeralT_app hp]
  split
  · rfl
  · next h1 =>
    rw [if_neg h1] at h
    split
    · next h2 =>
      rw [if_pos h2] at h
      exact litT_app _ h
    · rfl
theorem restY_fuel (l : List UInt8) : ∀ (f f' p : Nat), l.length - p < f → l.length - p < f' → restY l f p = restY l f' p := by
  intro f
  induction f with
  | zero => intro f' p h; omega
  | succ f ih =>
    intro f' p h h'
    cases f' with
    | zero => omega
    | succ f' =>
      rw [restY, restY]
      by_cases hp : p < l.length
      · rw [if_pos hp, if_pos hp]
        by_cases he : (nextT l p).err = 0
        · obtain ⟨u1, u2⟩ := nextT_up hp he
          have hb := behL_ge (l := l) (p := (nextT l p).fin) cBl u2
          rw [if_pos he, if_pos he, ih f' _ (by omega) (by omega)]
        · rw [if_neg he, if_neg he]
      · rw [if_neg hp, if_neg hp]
theorem blank_app {a b : List UInt8} {q : Nat} (hq : q ≤ a.length) : behL (a ++ 10 :: b) q cBl = if behL a q cBl < a.length then behL a q cBl else a.length + 1 + behL b 0 cBl := by
  have h1 := dropWhile_le (cBl.contains ·) (a.drop q)
  have h2 := dropWhile_le (cBl.contains ·) b
  rw [List.length_drop] at h1
  unfold behL
  rw [List.drop_append_of_le_length hq, List.dropWhile_append, List.drop_zero]
  cases hd : (a.drop q).dropWhile (cBl.contains ·) with
  | nil =>
    rw [hd] at h1
    rw [if_pos (show ([] : List UInt8).isEmpty = true from rfl), List.dropWhile_cons, if_pos (by decide), if_neg (by simp), List.length_append, List.length_cons]
    omega
  | cons c r =>
    rw [hd, List.length_cons] at h1
    rw [if_neg (show ¬ (c :: r).isEmpty = true by simp), if_pos (by rw [List.length_cons]; omega)]
    simp
    omega
theorem join_rest (a b : List UInt8) : ∀ (f F q : Nat), q ≤ a.length → a.length - behL a q cBl < f → (a ++ 10 :: b).length - behL (a ++ 10 :: b) q cBl < F → (∀ t ∈ restY a f (behL a q cBl), t.err = 0) → restY (a ++ 10 :: b) F (behL (a ++ 10 :: b) q cBl) = restY a f (behL a q cBl) ++ (allY b).map (shiftT (a.length + 1)) := by
  intro f
  induction f with
  | zero => intro F q _ h; omega
  | succ f ih =>
    intro F q hq hf hF hall
    have hb := behL_ge (l := a) (p := q) cBl hq
    rw [blank_app hq] at hF ⊢
    rw [restY] at hall ⊢
    by_cases hp : behL a q cBl < a.length
    · rw [if_pos hp] at hall hF ⊢
      rw [if_pos hp]
      by_cases he : (nextT a (behL a q cBl)).err = 0
      · rw [if_pos he] at hall ⊢
        obtain ⟨u1, u2⟩ := nextT_up hp he
        have hb2 := behL_ge (l := a) (p := (nextT a (behL a q cBl)).fin) cBl u2
        cases F with
        | zero => omega
        | succ F =>
          have hlen : (a ++ 10 :: b).length = a.length + 1 + b.length := by simp; omega
          have hn := nextT_app (b := b) hp he
          have hB := behL_ge (l := a ++ 10 :: b) (p := (nextT a (behL a q cBl)).fin) cBl (by omega)
          rw [restY, if_pos (by omega), hn, if_pos he, ih F _ u2 (by omega) (by omega) (fun t ht => hall t (List.mem_cons_of_mem _ ht)), List.cons_append]
      · rw [if_neg he] at hall
        exact absurd (hall _ (List.mem_singleton.2 rfl)) he
    · rw [if_neg hp] at hF ⊢
      rw [if_neg hp, List.nil_append]
      have hb0 := behL_ge (l := b) (p := 0) cBl (Nat.zero_le _)
      have e : a ++ 10 :: b = (a ++ [10]) ++ b := by simp
      have hm : (a ++ [10] : List UInt8).length = a.length + 1 := by simp
      rw [e] at hF ⊢
      rw [← hm] at hF ⊢
      rw [restY_pre (a ++ [10]) b F _ hb0.2]
      congr 1
      unfold allY
      refine restY_fuel b _ _ _ ?_ (by omega)
      rw [List.length_append] at hF
      omega
/-- two texts with a blank between -/
theorem allY_join {a b : List UInt8} (h : ∀ t ∈ allY a, t.err = 0) : allY (a ++ 10 :: b) = allY a ++ (allY b).map (shiftT (a.length + 1)) := by
  have h1 := behL_ge (l := a) (p := 0) cBl (Nat.zero_le _)
  have h2 := behL_ge (l := a ++ 10 :: b) (p := 0) cBl (Nat.zero_le _)
  exact join_rest a b (a.length + 1) ((a ++ 10 :: b).length + 1) 0 (Nat.zero_le _) (by omega) (by omega) h
end Go.Proofs.YtdehejadiofomaaDoor
