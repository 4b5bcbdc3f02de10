import Derived.Test.YtdehejadiofomaaGreatDoorM26
namespace Go.Proofs.YtdehejadiofomaaGreatDoor
open Go.RowKit
set_option linter.unusedVariables false
set_option linter.unusedSimpArgs false

/-- what a run leaves, where more follows that does not belong to it -/
theorem dropWhile_app (p : UInt8 → Bool) (c : UInt8) (y : List UInt8) (hc : p c = false) : ∀ x : List UInt8, ((x ++ c :: y).dropWhile p).length = (x.dropWhile p).length + (c :: y).length := by
  intro x
  induction x with
  | nil => rw [List.nil_append, List.dropWhile_cons, if_neg (by rw [hc]; decide)]; simp
  | cons a x ih =>
    rw [List.cons_append, List.dropWhile_cons, List.dropWhile_cons]
    split
    · exact ih
    · simp; omega
theorem behL_app {a b : List UInt8} {c : UInt8} {p : Nat} {cs : List UInt8} (hp : p ≤ a.length) (hc : cs.contains c = false) : behL (a ++ c :: b) p cs = behL a p cs := by
  unfold behL
  rw [List.drop_append_of_le_length hp, dropWhile_app (cs.contains ·) c b hc]
  have := dropWhile_le (cs.contains ·) (a.drop p)
  rw [List.length_drop] at this
  simp
  omega
theorem cut_app {a b : List UInt8} {p q : Nat} (hq : q ≤ a.length) : cut (a ++ b) p q = cut a p q := by
  unfold cut
  by_cases h : p ≤ a.length
  · rw [List.drop_append_of_le_length h, List.take_append_of_le_length (by rw [List.length_drop]; omega)]
  · rw [show q - p = 0 by omega]; simp
theorem getD_app {a b : List UInt8} {p : Nat} (hp : p < a.length) : (a ++ b).getD p 0 = a.getD p 0 := by
  rw [List.getD, List.getD, List.getElem?_append_left hp]
theorem wordT_app {a b : List UInt8} {p : Nat} (hp : p < a.length) : wordT (a ++ 10 :: b) p = wordT a p := by
  have hb := behL_app (a := a) (b := b) (c := 10) (p := p) (cs := cWd) (by omega) (by decide +kernel)
  have hl := (behL_ge (l := a) (p := p) cWd (by omega)).2
  unfold wordT
  rw [hb, cut_app hl]
theorem numeralT_app {a b : List UInt8} {p : Nat} (hp : p < a.length) : numeralT (a ++ 10 :: b) p = numeralT a p := by
  have hb := behL_app (a := a) (b := b) (c := 10) (p := p) (cs := cNm) (by omega) (by decide +kernel)
  have hl := (behL_ge (l := a) (p := p) cNm (by omega)).2
  unfold numeralT
  rw [hb, cut_app hl]

/-- the same, further on -/
theorem drop_pre {x b : List UInt8} {p : Nat} : (x ++ b).drop (x.length + p) = b.drop p := by
  rw [← List.drop_drop]; simp
theorem behL_pre {x b : List UInt8} {p : Nat} {cs : List UInt8} (hp : p ≤ b.length) : behL (x ++ b) (x.length + p) cs = x.length + behL b p cs := by
  unfold behL
  rw [drop_pre, List.length_append]
  have := dropWhile_le (cs.contains ·) (b.drop p)
  rw [List.length_drop] at this
  omega
theorem cut_pre {x b : List UInt8} {p q : Nat} : cut (x ++ b) (x.length + p) (x.length + q) = cut b p q := by
  unfold cut
  rw [drop_pre, show x.length + q - (x.length + p) = q - p by omega]
theorem getD_pre {x b : List UInt8} {p : Nat} : (x ++ b).getD (x.length + p) 0 = b.getD p 0 := by
  rw [List.getD, List.getD, List.getElem?_append_right (by omega), show x.length + p - x.length = p by omega]
/-- a token further on; a fault's place alone -/
def shiftT (m : Nat) (t : Tok) : Tok := if t.err = 0 then ⟨t.kind, m + t.at_, m + t.fin, t.text, 0⟩ else ⟨t.kind, m + t.at_, t.fin, t.text, t.err⟩
theorem wordT_pre {x b : List UInt8} {p : Nat} (hp : p < b.length) : wordT (x ++ b) (x.length + p) = shiftT x.length (wordT b p) := by
  unfold wordT
  rw [behL_pre (by omega), cut_pre]
  split
  · rfl
  · split
    · rfl
    · split <;> rfl
theorem numeralT_pre {x b : List UInt8} {p : Nat} (hp : p < b.length) : numeralT (x ++ b) (x.length + p) = shiftT x.length (numeralT b p) := by
  unfold numeralT
  rw [behL_pre (by omega), cut_pre]
  split <;> rfl
end Go.Proofs.YtdehejadiofomaaGreatDoor
namespace Go.Proofs.YtdehejadiofomaaGreatDoor
open Go.RowKit
set_option linter.unusedVariables false
set_option linter.unusedSimpArgs false

theorem escL_pre (x b : List UInt8) (k : Nat) : escL (x ++ b) (x.length + k) = ((escL b k).1, x.length + (escL b k).2.1, (escL b k).2.2) := by
  unfold escL
  rw [drop_pre, show x.length + k + 6 = x.length + (k + 6) by omega, drop_pre]
  split
  · simp [Nat.add_assoc]
  · split
    · rfl
    · split
      · simp [Nat.add_assoc]
      · split
        · rfl
        · split
          · simp [Nat.add_assoc]
          · rfl
theorem unqL_step {l : List UInt8} {p : Nat} (acc : List Nat) (h : p < l.length) : unqL l p acc =
    (if (decL (l.drop p)).1 = 34 then (acc, p + 1, 0)
    else if (decL (l.drop p)).1 < 32 then ([], p, 22)
    else if strayL (l.drop p) = true then ([], p, 20)
    else if (decL (l.drop p)).1 = 92 then
      (if (escL l p).2.2 = 0 then (if p < (escL l p).2.1 then unqL l (escL l p).2.1 (acc ++ [(escL l p).1]) else ([], 0, 0)) else ([], (escL l p).2.1, (escL l p).2.2))
    else (if 0 < (decL (l.drop p)).2 then unqL l (p + (decL (l.drop p)).2) (acc ++ [(decL (l.drop p)).1]) else ([], 0, 0))) := by
  rw [unqL, dif_pos h]
theorem unqL_pre (x b : List UInt8) : ∀ (n p : Nat) (acc : List Nat), b.length - p ≤ n → p ≤ b.length → unqL (x ++ b) (x.length + p) acc = ((unqL b p acc).1, x.length + (unqL b p acc).2.1, (unqL b p acc).2.2) := by
  intro n
  induction n with
  | zero =>
    intro p acc hn hp
    rw [unqL_end acc (by simp; omega), unqL_end acc (by omega)]
    simp
  | succ n ih =>
    intro p acc hn hp
    by_cases hlt : p < b.length
    · have e1 := unqL_step (l := x ++ b) (p := x.length + p) acc (by simp; omega)
      rw [drop_pre, escL_pre] at e1
      have e2 := unqL_step (l := b) acc hlt
      rw [e1, e2]
      by_cases h1 : (decL (b.drop p)).1 = 34
      · rw [if_pos h1, if_pos h1]; rfl
      · rw [if_neg h1, if_neg h1]
        by_cases h2 : (decL (b.drop p)).1 < 32
        · rw [if_pos h2, if_pos h2]
        · rw [if_neg h2, if_neg h2]
          by_cases h3 : strayL (b.drop p) = true
          · rw [if_pos h3, if_pos h3]
          · rw [if_neg h3, if_neg h3]
            by_cases h4 : (decL (b.drop p)).1 = 92
            · rw [if_pos h4, if_pos h4]
              dsimp only
              by_cases h5 : (escL b p).2.2 = 0
              · obtain ⟨g1, g2, _⟩ := escL_ok h5
                rw [if_pos h5, if_pos h5, if_pos g1, if_pos (by omega), ih _ _ (by omega) g2]
              · rw [if_neg h5, if_neg h5]
            · rw [if_neg h4, if_neg h4]
              have hz := decL_pos (b.drop p)
              have hst := decL_le (b.drop p) (fun e => by have := congrArg List.length e; rw [List.length_drop] at this; simp at this; omega)
              rw [List.length_drop] at hst
              rw [if_pos (by omega), if_pos (by omega), show x.length + p + (decL (b.drop p)).2 = x.length + (p + (decL (b.drop p)).2) by omega, ih _ _ (by omega) (by omega)]
    · rw [unqL_end acc (by simp; omega), unqL_end acc (by omega)]
      simp
theorem shiftT_err (m : Nat) (t : Tok) : (shiftT m t).err = t.err := by
  unfold shiftT
  split
  · next h => exact h.symm
  · rfl
theorem litT_pre {x b : List UInt8} {p : Nat} (hp : p < b.length) : litT (x ++ b) (x.length + p) = shiftT x.length (litT b p) := by
  unfold litT
  rw [show x.length + p + 1 = x.length + (p + 1) by omega, unqL_pre x b (b.length - (p + 1)) (p + 1) [] (Nat.le_refl _) (by omega)]
  dsimp only
  by_cases h : (unqL b (p + 1) []).2.2 = 0
  · rw [if_pos h, if_pos h]; rfl
  · rw [if_neg h, if_neg h]
    unfold shiftT
    rw [if_neg h]
theorem nextT_pre {x b : List UInt8} {p : Nat} (hp : p < b.length) : nextT (x ++ b) (x.length + p) = shiftT x.length (nextT b p) := by
  unfold nextT
  rw [getD_pre, litT_pre hp, wordT_pre hp, numeralT_pre hp]
  split
  · rfl
  · split
    · rfl
    · split
      · rfl
      · split <;> rfl
theorem restY_pre (x b : List UInt8) : ∀ (f p : Nat), p ≤ b.length → restY (x ++ b) f (x.length + p) = (restY b f p).map (shiftT x.length) := by
  intro f
  induction f with
  | zero => intro p _; rfl
  | succ f ih =>
    intro p hp
    rw [restY, restY]
    by_cases h : p < b.length
    · rw [if_pos h, if_pos (by simp; omega), nextT_pre h, shiftT_err]
      by_cases he : (nextT b p).err = 0
      · obtain ⟨u1, u2⟩ := nextT_up h he
        have hb := behL_ge (l := b) (p := (nextT b p).fin) cBl u2
        have hf : (shiftT x.length (nextT b p)).fin = x.length + (nextT b p).fin := by unfold shiftT; rw [if_pos he]
        rw [if_pos he, if_pos he, hf, behL_pre u2, ih _ hb.2]
        rfl
      · rw [if_neg he, if_neg he]; rfl
    · rw [if_neg h, if_neg (by simp; omega)]; rfl
end Go.Proofs.YtdehejadiofomaaGreatDoor
namespace Go.Proofs.YtdehejadiofomaaGreatDoor
open Go.RowKit
set_option linter.unusedVariables false
set_option linter.unusedSimpArgs false

theorem dec_app {x : List UInt8} (y : List UInt8) (hx : x ≠ []) (hs : strayL x = false) : decL (x ++ y) = decL x ∧ strayL (x ++ y) = false := by
  rcases stray_or x hx with ⟨n, post, hn, rfl, _⟩ | ⟨_, h⟩
  · rw [List.append_assoc, dec_enc n hn, dec_enc n hn]
    exact ⟨rfl, stray_enc n hn _⟩
  · rw [h] at hs; cases hs
theorem shortL_app {x : List UInt8} (y : List UInt8) (h : 2 ≤ x.length) : shortL (x ++ y) = shortL x := by
  unfold shortL
  rw [getD_app (by omega), getD_app (by omega)]
  have : 2 ≤ (x ++ y).length := by simp; omega
  simp only [this, h, and_true]
theorem numL_app {x : List UInt8} (y : List UInt8) (h : 6 ≤ x.length) : numL (x ++ y) = numL x := by
  unfold numL
  rw [getD_app (by omega), getD_app (by omega), List.drop_append_of_le_length (by omega), List.take_append_of_le_length (by rw [List.length_drop]; omega)]
  have : 6 ≤ (x ++ y).length := by simp; omega
  simp only [this, h, true_and]
theorem shortL_len {x : List UInt8} {r : Nat} (h : shortL x = some r) : 2 ≤ x.length := by
  unfold shortL at h
  split at h
  · next h1 => exact h1.2
  · cases h
theorem numL_len {x : List UInt8} {r : Nat} (h : numL x = some r) : 6 ≤ x.length := by
  unfold numL at h
  split at h
  · next h1 => exact h1.1
  · cases h
theorem escL_app {a : List UInt8} (y : List UInt8) {k : Nat} (hk : k ≤ a.length) (h : (escL a k).2.2 = 0) : escL (a ++ y) k = escL a k := by
  unfold escL at h ⊢
  rw [List.drop_append_of_le_length hk]
  cases hs : shortL (a.drop k) with
  | some r => rw [shortL_app y (shortL_len hs), hs]
  | none =>
    rw [hs] at h
    dsimp only at h
    cases hn : numL (a.drop k) with
    | none => rw [hn] at h; cases h
    | some n =>
      have h6 := numL_len hn
      rw [hn] at h
      dsimp only at h
      rw [shortL_app y (by omega), hs, numL_app y h6, hn]
      dsimp only
      rw [List.length_drop] at h6
      split
      · rfl
      · next hc =>
        rw [if_neg hc] at h
        cases hm : numL (a.drop (k + 6)) with
        | none => rw [hm] at h; cases h
        | some m => rw [List.drop_append_of_le_length (by omega), numL_app y (numL_len hm), hm]
theorem unqL_app {a : List UInt8} (y : List UInt8) : ∀ (n p : Nat) (acc : List Nat), a.length - p ≤ n → (unqL a p acc).2.2 = 0 → unqL (a ++ y) p acc = unqL a p acc := by
  intro n
  induction n with
  | zero => intro p acc hn h0; rw [unqL_end acc (by omega)] at h0; cases h0
  | succ n ih =>
    intro p acc hn h0
    by_cases hlt : p < a.length
    · have hne : a.drop p ≠ [] := fun e => by have := congrArg List.length e; rw [List.length_drop] at this; simp at this; omega
      have e2 := unqL_step (l := a) acc hlt
      have hs : strayL (a.drop p) = false := by
        cases hst : strayL (a.drop p) with
        | false => rfl
        | true =>
          exfalso
          rcases stray_or (a.drop p) hne with ⟨_, _, _, _, h⟩ | ⟨hd, _⟩
          · rw [h] at hst; cases hst
          · rw [e2, if_neg (by rw [hd]; decide), if_neg (by rw [hd]; decide), if_pos hst] at h0
            cases h0
      obtain ⟨d1, d2⟩ := dec_app y hne hs
      have e1 := unqL_step (l := a ++ y) (p := p) acc (by simp; omega)
      rw [List.drop_append_of_le_length (Nat.le_of_lt hlt), d1] at e1
      rw [e2] at h0
      rw [e1, e2]
      by_cases h1 : (decL (a.drop p)).1 = 34
      · rw [if_pos h1, if_pos h1]
      · rw [if_neg h1] at h0
        rw [if_neg h1, if_neg h1]
        by_cases h2 : (decL (a.drop p)).1 < 32
        · rw [if_pos h2] at h0; cases h0
        · rw [if_neg h2] at h0
          rw [if_neg h2, if_neg h2]
          rw [if_neg (show ¬ strayL (a.drop p) = true by rw [hs]; decide)] at h0
          rw [if_neg (show ¬ strayL (a.drop p ++ y) = true by rw [d2]; decide), if_neg (show ¬ strayL (a.drop p) = true by rw [hs]; decide)]
          by_cases h4 : (decL (a.drop p)).1 = 92
          · rw [if_pos h4] at h0
            rw [if_pos h4, if_pos h4]
            by_cases h5 : (escL a p).2.2 = 0
            · obtain ⟨g1, g2, _⟩ := escL_ok h5
              rw [if_pos h5, if_pos g1] at h0
              rw [escL_app y (Nat.le_of_lt hlt) h5, if_pos h5, if_pos h5, if_pos g1, if_pos g1, ih _ _ (by omega) h0]
            · rw [if_neg h5] at h0; exact absurd h0 h5
          · rw [if_neg h4] at h0
            rw [if_neg h4, if_neg h4]
            have hz := decL_pos (a.drop p)
            rw [if_pos (by omega)] at h0
            rw [if_pos (by omega), if_pos (by omega), ih _ _ (by omega) h0]
    · rw [unqL_end acc hlt] at h0; cases h0
theorem litT_app {a : List UInt8} (y : List UInt8) {p : Nat} (h : (litT a p).err = 0) : litT (a ++ y) p = litT a p := by
  have hu : (unqL a (p + 1) []).2.2 = 0 := by
    unfold litT at h
    split at h
    · assumption
    · exact h
  unfold litT
  rw [unqL_app y (a.length - (p + 1)) (p + 1) [] (Nat.le_refl _) hu]
theorem nextT_app {a b : List UInt8} {p : Nat} (hp : p < a.length) (h : (nextT a p).err = 0) : nextT (a ++ 10 :: b) p = nextT a p := by
  unfold nextT at h ⊢
  rw [getD_app hp, wordT_app hp, numeralT_app hp]
  split
  · rfl
  · next h1 =>
    rw [if_neg h1] at h
    split
    · next h2 =>
      rw [if_pos h2] at h
      exact litT_app _ h
    · rfl
theorem restY_fuel (l : List UInt8) : ∀ (f f' p : Nat), l.length - p < f → l.length - p < f' → restY l f p = restY l f' p := by
  intro f
  induction f with
  | zero => intro f' p h; omega
  | succ f ih =>
    intro f' p h h'
    cases f' with
    | zero => omega
    | succ f' =>
      rw [restY, restY]
      by_cases hp : p < l.length
      · rw [if_pos hp, if_pos hp]
        by_cases he : (nextT l p).err = 0
        · obtain ⟨u1, u2⟩ := nextT_up hp he
          have hb := behL_ge (l := l) (p := (nextT l p).fin) cBl u2
          rw [if_pos he, if_pos he, ih f' _ (by omega) (by omega)]
        · rw [if_neg he, if_neg he]
      · rw [if_neg hp, if_neg hp]
theorem blank_app {a b : List UInt8} {q : Nat} (hq : q ≤ a.length) : behL (a ++ 10 :: b) q cBl = if behL a q cBl < a.length then behL a q cBl else a.length + 1 + behL b 0 cBl := by
  have h1 := dropWhile_le (cBl.contains ·) (a.drop q)
  have h2 := dropWhile_le (cBl.contains ·) b
  rw [List.length_drop] at h1
  unfold behL
  rw [List.drop_append_of_le_length hq, List.dropWhile_append, List.drop_zero]
  cases hd : (a.drop q).dropWhile (cBl.contains ·) with
  | nil =>
    rw [hd] at h1
    rw [if_pos (show ([] : List UInt8).isEmpty = true from rfl), List.dropWhile_cons, if_pos (by decide), if_neg (by simp), List.length_append, List.length_cons]
    omega
  | cons c r =>
    rw [hd, List.length_cons] at h1
    rw [if_neg (show ¬ (c :: r).isEmpty = true by simp), if_pos (by rw [List.length_cons]; omega)]
    simp
    omega
theorem join_rest (a b : List UInt8) : ∀ (f F q : Nat), q ≤ a.length → a.length - behL a q cBl < f → (a ++ 10 :: b).length - behL (a ++ 10 :: b) q cBl < F → (∀ t ∈ restY a f (behL a q cBl), t.err = 0) → restY (a ++ 10 :: b) F (behL (a ++ 10 :: b) q cBl) = restY a f (behL a q cBl) ++ (allY b).map (shiftT (a.length + 1)) := by
  intro f
  induction f with
  | zero => intro F q _ h; omega
  | succ f ih =>
    intro F q hq hf hF hall
    have hb := behL_ge (l := a) (p := q) cBl hq
    rw [blank_app hq] at hF ⊢
    rw [restY] at hall ⊢
    by_cases hp : behL a q cBl < a.length
    · rw [if_pos hp] at hall hF ⊢
      rw [if_pos hp]
      by_cases he : (nextT a (behL a q cBl)).err = 0
      · rw [if_pos he] at hall ⊢
        obtain ⟨u1, u2⟩ := nextT_up hp he
        have hb2 := behL_ge (l := a) (p := (nextT a (behL a q cBl)).fin) cBl u2
        cases F with
        | zero => omega
        | succ F =>
          have hlen : (a ++ 10 :: b).length = a.length + 1 + b.length := by simp; omega
          have hn := nextT_app (b := b) hp he
          have hB := behL_ge (l := a ++ 10 :: b) (p := (nextT a (behL a q cBl)).fin) cBl (by omega)
          rw [restY, if_pos (by omega), hn, if_pos he, ih F _ u2 (by omega) (by omega) (fun t ht => hall t (List.mem_cons_of_mem _ ht)), List.cons_append]
      · rw [if_neg he] at hall
        exact absurd (hall _ (List.mem_singleton.2 rfl)) he
    · rw [if_neg hp] at hF ⊢
      rw [if_neg hp, List.nil_append]
      have hb0 := behL_ge (l := b) (p := 0) cBl (Nat.zero_le _)
      have e : a ++ 10 :: b = (a ++ [10]) ++ b := by simp
      have hm : (a ++ [10] : List UInt8).length = a.length + 1 := by simp
      rw [e] at hF ⊢
      rw [← hm] at hF ⊢
      rw [restY_pre (a ++ [10]) b F _ hb0.2]
      congr 1
      unfold allY
      refine restY_fuel b _ _ _ ?_ (by omega)
      rw [List.length_append] at hF
      omega
/-- two texts with a blank between -/
theorem allY_join {a b : List UInt8} (h : ∀ t ∈ allY a, t.err = 0) : allY (a ++ 10 :: b) = allY a ++ (allY b).map (shiftT (a.length + 1)) := by
  have h1 := behL_ge (l := a) (p := 0) cBl (Nat.zero_le _)
  have h2 := behL_ge (l := a ++ 10 :: b) (p := 0) cBl (Nat.zero_le _)
  exact join_rest a b (a.length + 1) ((a ++ 10 :: b).length + 1) 0 (Nat.zero_le _) (by omega) (by omega) h
end Go.Proofs.YtdehejadiofomaaGreatDoor
namespace Go.Proofs.YtdehejadiofomaaGreatDoor
open Go.RowKit
set_option linter.unusedVariables false
set_option linter.unusedSimpArgs false

theorem beh_step {l : List UInt8} {p : Nat} {cs : List UInt8} (hp : p < l.length) (hc : cs.contains (l.getD p 0) = true) : behL l p cs = behL l (p + 1) cs := by
  have e : l.drop p = l.getD p 0 :: l.drop (p + 1) := by
    rw [List.drop_eq_getElem_cons hp]; simp [List.getD, hp]
  unfold behL
  rw [e, List.dropWhile_cons, if_pos hc]
theorem beh_stop {l : List UInt8} {p : Nat} {cs : List UInt8} (hp : p < l.length) (hc : cs.contains (l.getD p 0) = false) : behL l p cs = p := by
  have e : l.drop p = l.getD p 0 :: l.drop (p + 1) := by
    rw [List.drop_eq_getElem_cons hp]; simp [List.getD, hp]
  unfold behL
  rw [e, List.dropWhile_cons, if_neg (by rw [hc]; decide), List.length_cons, List.length_drop]
  omega
theorem beh_end {l : List UInt8} {p : Nat} {cs : List UInt8} (hp : l.length ≤ p) : behL l p cs = l.length := by
  unfold behL
  rw [List.drop_eq_nil_of_le hp]
  rfl
/-- the tokens ahead of a place, and those behind it -/
def AhS (l : List UInt8) (p : Nat) (pre : List Tok) : Prop := p ≤ l.length ∧ (∀ t ∈ pre, t.err = 0) ∧ ∃ f, l.length - behL l p cBl < f ∧ allY l = pre ++ restY l f (behL l p cBl)
theorem AhS.start (l : List UInt8) : AhS l 0 [] := ⟨Nat.zero_le _, (fun t h => absurd h (List.not_mem_nil)), l.length + 1, by omega, rfl⟩
theorem AhS.blank {l : List UInt8} {p : Nat} {pre : List Tok} (h : AhS l p pre) (hp : p < l.length) (hc : cBl.contains (l.getD p 0) = true) : AhS l (p + 1) pre := by
  obtain ⟨_, h1, f, h2, h3⟩ := h
  rw [beh_step hp hc] at h2 h3
  exact ⟨hp, h1, f, h2, h3⟩
theorem AhS.done {l : List UInt8} {p : Nat} {pre : List Tok} (h : AhS l p pre) (hp : ¬ p < l.length) : allY l = pre := by
  obtain ⟨_, h1, f, h2, h3⟩ := h
  rw [beh_end (by omega)] at h2 h3
  cases f with
  | zero => omega
  | succ f => rw [restY, if_neg (by omega), List.append_nil] at h3; exact h3
theorem AhS.tok {l : List UInt8} {p : Nat} {pre : List Tok} (h : AhS l p pre) (hp : p < l.length) (hc : cBl.contains (l.getD p 0) = false) (he : (nextT l p).err = 0) : p < (nextT l p).fin ∧ AhS l (nextT l p).fin (pre ++ [nextT l p]) := by
  obtain ⟨_, h1, f, h2, h3⟩ := h
  rw [beh_stop hp hc] at h2 h3
  obtain ⟨u1, u2⟩ := nextT_up hp he
  have hb := behL_ge (l := l) (p := (nextT l p).fin) cBl u2
  refine ⟨u1, u2, ?_, ?_⟩
  · intro t ht
    rcases List.mem_append.1 ht with h | h
    · exact h1 t h
    · rw [List.mem_singleton.1 h]; exact he
  · cases f with
    | zero => omega
    | succ f =>
      rw [restY, if_pos hp, if_pos he] at h3
      exact ⟨f, by omega, by rw [h3]; simp⟩
theorem AhS.bad {l : List UInt8} {p : Nat} {pre : List Tok} (h : AhS l p pre) (hp : p < l.length) (hc : cBl.contains (l.getD p 0) = false) (he : (nextT l p).err ≠ 0) : allY l = pre ++ [nextT l p] := by
  obtain ⟨_, h1, f, h2, h3⟩ := h
  rw [beh_stop hp hc] at h2 h3
  cases f with
  | zero => omega
  | succ f =>
    rw [restY, if_pos hp, if_neg he] at h3
    exact h3
theorem ahs_len {l : List UInt8} {p : Nat} {pre : List Tok} (h : AhS l p pre) : pre.length ≤ l.length := by
  obtain ⟨_, _, f, _, h3⟩ := h
  have := allY_len l
  rw [h3, List.length_append] at this
  omega

/-- a fault tells its place alone -/
theorem nextT_bad {l : List UInt8} {p : Nat} (h : (nextT l p).err ≠ 0) : nextT l p = ⟨0, (nextT l p).at_, 0, [], (nextT l p).err⟩ := by
  unfold nextT at h ⊢
  split
  · next h1 => rw [if_pos h1] at h; exact absurd rfl h
  · next h1 =>
    rw [if_neg h1] at h
    split
    · next h2 =>
      rw [if_pos h2] at h
      unfold litT at h ⊢
      split
      · next h3 => rw [if_pos h3] at h; exact absurd rfl h
      · rfl
    · next h2 =>
      rw [if_neg h2] at h
      split
      · next h3 =>
        rw [if_pos h3] at h
        unfold wordT at h ⊢
        split
        · next h4 => rw [if_pos h4] at h; exact absurd rfl h
        · next h4 =>
          rw [if_neg h4] at h
          split
          · next h5 => rw [if_pos h5] at h; exact absurd rfl h
          · next h5 =>
            rw [if_neg h5] at h
            split
            · next h6 => rw [if_pos h6] at h; exact absurd rfl h
            · rfl
      · next h3 =>
        rw [if_neg h3] at h
        split
        · next h4 =>
          rw [if_pos h4] at h
          unfold numeralT at h ⊢
          split
          · next h5 => rw [if_pos h5] at h; exact absurd rfl h
          · rfl
        · rfl
end Go.Proofs.YtdehejadiofomaaGreatDoor
