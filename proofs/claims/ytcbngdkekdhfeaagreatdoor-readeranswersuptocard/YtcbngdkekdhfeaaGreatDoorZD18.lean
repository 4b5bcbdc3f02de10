import Derived.Test.YtcbngdkekdhfeaaGreatDoorM24
namespace Go.Proofs.YtcbngdkekdhfeaaGreatDoor
open Go.RowKit
set_option linter.unusedVariables false
set_option linter.unusedSimpArgs false

theorem run_take (p : UInt8 → Bool) : ∀ l : List UInt8, (l.take (l.length - (l.dropWhile p).length)).dropWhile p = [] := by
  intro l
  induction l with
  | nil => rfl
  | cons c r ih =>
    have h := dropWhile_le p r
    by_cases hc : p c = true
    · rw [List.dropWhile_cons, if_pos hc, List.length_cons, show r.length + 1 - (r.dropWhile p).length = (r.length - (r.dropWhile p).length) + 1 by omega, List.take_succ_cons, List.dropWhile_cons, if_pos hc]
      exact ih
    · rw [List.dropWhile_cons, if_neg hc, Nat.sub_self]
      rfl
theorem behL_take (l cs : List UInt8) : behL (l.take (behL l 0 cs)) 0 cs = behL l 0 cs := by
  have h := run_take (cs.contains ·) l
  unfold behL
  rw [List.drop_zero, List.drop_zero, h, List.length_take]
  simp
theorem getD_take {x : List UInt8} {k p : Nat} (hp : p < k) : (x.take k).getD p 0 = x.getD p 0 := by
  rw [List.getD, List.getD, List.getElem?_take, if_pos hp]
theorem dec_take {x : List UInt8} {k : Nat} (hx : x ≠ []) (hs : strayL x = false) (hk : (decL x).2 ≤ k) : decL (x.take k) = decL x ∧ strayL (x.take k) = false := by
  rcases stray_or x hx with ⟨n, post, hn, rfl, _⟩ | ⟨_, h⟩
  · rw [dec_enc n hn] at hk ⊢
    dsimp only at hk
    rw [List.take_append, List.take_of_length_le hk, dec_enc n hn]
    exact ⟨rfl, stray_enc n hn _⟩
  · rw [h] at hs; cases hs
theorem dec_one {x : List UInt8} (hx : x ≠ []) (hs : strayL x = false) (h : (decL x).1 < 128) : (decL x).2 = 1 := by
  rcases stray_or x hx with ⟨n, post, hn, rfl, _⟩ | ⟨_, h2⟩
  · rw [dec_enc n hn] at h ⊢
    dsimp only at h ⊢
    unfold enc
    rw [if_pos h]
    rfl
  · rw [h2] at hs; cases hs
theorem shortL_take {x : List UInt8} {k : Nat} (h : 2 ≤ x.length) (hk : 2 ≤ k) : shortL (x.take k) = shortL x := by
  unfold shortL
  rw [getD_take (by omega), getD_take (by omega)]
  have : 2 ≤ (x.take k).length := by rw [List.length_take]; omega
  simp only [this, h, and_true]
theorem numL_take {x : List UInt8} {k : Nat} (h : 6 ≤ x.length) (hk : 6 ≤ k) : numL (x.take k) = numL x := by
  unfold numL
  rw [getD_take (by omega), getD_take (by omega), List.drop_take, List.take_take, Nat.min_eq_left (by omega)]
  have : 6 ≤ (x.take k).length := by rw [List.length_take]; omega
  simp only [this, h, true_and]
theorem escL_take {a : List UInt8} {f k : Nat} (hk : k ≤ a.length) (h : (escL a k).2.2 = 0) (hf : (escL a k).2.1 ≤ f) : escL (a.take f) k = escL a k := by
  unfold escL at h hf ⊢
  rw [List.drop_take]
  cases hs : shortL (a.drop k) with
  | some r =>
    rw [hs] at hf
    dsimp only at hf
    rw [shortL_take (shortL_len hs) (by omega), hs]
  | none =>
    rw [hs] at h hf
    dsimp only at h hf
    cases hn : numL (a.drop k) with
    | none => rw [hn] at h; cases h
    | some n =>
      have h6 := numL_len hn
      rw [hn] at h hf
      dsimp only at h hf
      by_cases hc : n < 55296 ∨ 57344 ≤ n
      · rw [if_pos hc] at hf
        dsimp only at hf
        rw [shortL_take (by omega) (by omega), hs, numL_take h6 (by omega), hn]
        dsimp only
        rw [if_pos hc, if_pos hc]
      · rw [if_neg hc] at h hf
        cases hm : numL (a.drop (k + 6)) with
        | none => rw [hm] at h; cases h
        | some m =>
          rw [hm] at h hf
          dsimp only at h hf
          by_cases hd : n < 56320 ∧ 56320 ≤ m ∧ m < 57344
          · rw [if_pos hd] at hf
            dsimp only at hf
            rw [shortL_take (by omega) (by omega), hs, numL_take h6 (by omega), hn]
            dsimp only
            rw [if_neg hc, if_neg hc, List.drop_take, numL_take (numL_len hm) (by omega), hm]
          · rw [if_neg hd] at h; cases h
theorem unqL_take {a : List UInt8} {f : Nat} : ∀ (n p : Nat) (acc : List Nat), a.length - p ≤ n → (unqL a p acc).2.2 = 0 → (unqL a p acc).2.1 ≤ f → unqL (a.take f) p acc = unqL a p acc := by
  intro n
  induction n with
  | zero => intro p acc hn h0; rw [unqL_end acc (by omega)] at h0; cases h0
  | succ n ih =>
    intro p acc hn h0 hf
    by_cases hlt : p < a.length
    · have hne : a.drop p ≠ [] := fun e => by have := congrArg List.length e; rw [List.length_drop] at this; simp at this; omega
      have e2 := unqL_step (l := a) acc hlt
      have hs : strayL (a.drop p) = false := by
        cases hst : strayL (a.drop p) with
        | false => rfl
        | true =>
          exfalso
          rcases stray_or (a.drop p) hne with ⟨_, _, _, _, h⟩ | ⟨hd, _⟩
          · rw [h] at hst; cases hst
          · rw [e2, if_neg (by rw [hd]; decide), if_neg (by rw [hd]; decide), if_pos hst] at h0
            cases h0
      have hz := decL_pos (a.drop p)
      have hst := decL_le (a.drop p) hne
      rw [List.length_drop] at hst
      rw [e2] at h0 hf
      have key : ∀ hk : (decL (a.drop p)).2 ≤ f - p, unqL (a.take f) p acc =
          (if (decL (a.drop p)).1 = 34 then (acc, p + 1, 0)
          else if (decL (a.drop p)).1 < 32 then ([], p, 22)
          else if strayL (a.drop p) = true then ([], p, 20)
          else if (decL (a.drop p)).1 = 92 then
            (if (escL (a.take f) p).2.2 = 0 then (if p < (escL (a.take f) p).2.1 then unqL (a.take f) (escL (a.take f) p).2.1 (acc ++ [(escL (a.take f) p).1]) else ([], 0, 0)) else ([], (escL (a.take f) p).2.1, (escL (a.take f) p).2.2))
          else (if 0 < (decL (a.drop p)).2 then unqL (a.take f) (p + (decL (a.drop p)).2) (acc ++ [(decL (a.drop p)).1]) else ([], 0, 0))) := by
        intro hk
        obtain ⟨d1, d2⟩ := dec_take hne hs hk
        have e1 := unqL_step (l := a.take f) (p := p) acc (by rw [List.length_take]; omega)
        rw [List.drop_take, d1, d2, ← hs] at e1
        exact e1
      rw [e2]
      by_cases h1 : (decL (a.drop p)).1 = 34
      · rw [if_pos h1] at hf
        dsimp only at hf
        rw [key (by rw [dec_one hne hs (by omega)]; omega), if_pos h1, if_pos h1]
      · rw [if_neg h1] at h0 hf
        by_cases h2 : (decL (a.drop p)).1 < 32
        · rw [if_pos h2] at h0; cases h0
        · rw [if_neg h2] at h0 hf
          rw [if_neg (show ¬ strayL (a.drop p) = true by rw [hs]; decide)] at h0 hf
          by_cases h4 : (decL (a.drop p)).1 = 92
          · rw [if_pos h4] at h0 hf
            by_cases h5 : (escL a p).2.2 = 0
            · obtain ⟨g1, g2, _⟩ := escL_ok h5
              rw [if_pos h5, if_pos g1] at h0 hf
              have := unqL_le a _ _ _ (Nat.le_refl _) h0 g2
              rw [key (by rw [dec_one hne hs (by omega)]; omega), if_neg h1, if_neg h1, if_neg h2, if_neg h2, if_neg (show ¬ strayL (a.drop p) = true by rw [hs]; decide), if_neg (show ¬ strayL (a.drop p) = true by rw [hs]; decide), if_pos h4, if_pos h4]
              rw [escL_take (Nat.le_of_lt hlt) h5 (by omega), if_pos h5, if_pos h5, if_pos g1, if_pos g1, ih _ _ (by omega) h0 hf]
            · rw [if_neg h5] at h0; exact absurd h0 h5
          · rw [if_neg h4] at h0 hf
            rw [if_pos (by omega)] at h0 hf
            have := unqL_le a _ _ _ (Nat.le_refl _) h0 (by omega)
            rw [key (by omega), if_neg h1, if_neg h1, if_neg h2, if_neg h2, if_neg (show ¬ strayL (a.drop p) = true by rw [hs]; decide), if_neg (show ¬ strayL (a.drop p) = true by rw [hs]; decide), if_neg h4, if_neg h4]
            rw [if_pos (by omega), if_pos (by omega), ih _ _ (by omega) h0 hf]
    · rw [unqL_end acc hlt] at h0; cases h0

theorem cut_zero (l : List UInt8) (e : Nat) : cut (l.take e) 0 e = cut l 0 e := by
  unfold cut
  rw [List.drop_zero, List.drop_zero, List.take_take, Nat.sub_zero, Nat.min_self]
theorem wordT_take {l : List UInt8} (h : (wordT l 0).err = 0) : wordT (l.take (wordT l 0).fin) 0 = wordT l 0 := by
  have hf : (wordT l 0).fin = behL l 0 cWd := by
    unfold wordT at h ⊢
    split
    · rfl
    · next h1 =>
      rw [if_neg h1] at h
      split
      · rfl
      · next h2 =>
        rw [if_neg h2] at h
        split
        · rfl
        · next h3 => rw [if_neg h3] at h; cases h
  rw [hf]
  unfold wordT
  rw [behL_take, cut_zero]
theorem numeralT_take {l : List UInt8} (h : (numeralT l 0).err = 0) : numeralT (l.take (numeralT l 0).fin) 0 = numeralT l 0 := by
  have hf : (numeralT l 0).fin = behL l 0 cNm := by
    unfold numeralT at h ⊢
    split
    · rfl
    · next h1 => rw [if_neg h1] at h; cases h
  rw [hf]
  unfold numeralT
  rw [behL_take, cut_zero]
theorem litT_take {l : List UInt8} (h : (litT l 0).err = 0) : litT (l.take (litT l 0).fin) 0 = litT l 0 := by
  have hu : (unqL l (0 + 1) []).2.2 = 0 := by
    unfold litT at h
    split at h
    · assumption
    · exact h
  have hf : (litT l 0).fin = (unqL l (0 + 1) []).2.1 := by unfold litT; rw [if_pos hu]
  rw [hf]
  unfold litT
  rw [unqL_take _ _ _ (Nat.le_refl _) hu (Nat.le_refl _)]
theorem nextT_take {l : List UInt8} (hl : 0 < l.length) (h : (nextT l 0).err = 0) : nextT (l.take (nextT l 0).fin) 0 = nextT l 0 := by
  have hup := (nextT_up hl h).1
  have hg := getD_take (x := l) hup
  unfold nextT at h ⊢
  unfold nextT at hg
  rw [hg]
  split
  · rfl
  · next h1 =>
    rw [if_neg h1] at h
    split
    · next h2 => rw [if_pos h2] at h; exact litT_take h
    · next h2 =>
      rw [if_neg h2] at h
      split
      · next h3 => rw [if_pos h3] at h; exact wordT_take h
      · next h3 =>
        rw [if_neg h3] at h
        split
        · next h4 => rw [if_pos h4] at h; exact numeralT_take h
        · next h4 => exact absurd h (by rw [if_neg h4]; decide)
theorem nextT_cut {s : List UInt8} {p : Nat} (hp : p < s.length) (h : (nextT s p).err = 0) : nextT s p = shiftT p (nextT (cut s p (nextT s p).fin) 0) ∧ (nextT (cut s p (nextT s p).fin) 0).err = 0 ∧ (nextT (cut s p (nextT s p).fin) 0).fin = (nextT s p).fin - p ∧ (cut s p (nextT s p).fin).length = (nextT s p).fin - p := by
  have e := nextT_pre (x := s.take p) (b := s.drop p) (p := 0) (by rw [List.length_drop]; omega)
  rw [List.take_append_drop, List.length_take, Nat.min_eq_left (by omega), Nat.add_zero] at e
  have he : (nextT (s.drop p) 0).err = 0 := by rw [e, shiftT_err] at h; exact h
  have hf : (nextT s p).fin = p + (nextT (s.drop p) 0).fin := by rw [e]; unfold shiftT; rw [if_pos he]
  have ht := nextT_take (l := s.drop p) (by rw [List.length_drop]; omega) he
  have hc : cut s p (nextT s p).fin = (s.drop p).take (nextT (s.drop p) 0).fin := by
    unfold cut
    rw [hf, Nat.add_sub_cancel_left]
  have hup := nextT_up hp h
  refine ⟨?_, ?_, ?_, ?_⟩
  · rw [hc, ht]; exact e
  · rw [hc, ht]; exact he
  · rw [hc, ht]; omega
  · rw [hc, List.length_take, List.length_drop]; omega

theorem wordT_app2 {a b : List UInt8} {p : Nat} (hp : p < a.length) : wordT (a ++ 32 :: b) p = wordT a p := by
  have hb := behL_app (a := a) (b := b) (c := 32) (p := p) (cs := cWd) (by omega) (by decide +kernel)
  have hl := (behL_ge (l := a) (p := p) cWd (by omega)).2
  unfold wordT
  rw [hb, cut_app hl]
theorem numeralT_app2 {a b : List UInt8} {p : Nat} (hp : p < a.length) : numeralT (a ++ 32 :: b) p = numeralT a p := by
  have hb := behL_app (a := a) (b := b) (c := 32) (p := p) (cs := cNm) (by omega) (by decide +kernel)
  have hl := (behL_ge (l := a) (p := p) cNm (by omega)).2
  unfold numeralT
  rw [hb, cut_app hl]
theorem nextT_app2 {a b : List UInt8} {p : Nat} (hp : p < a.length) (h : (nextT a p).err = 0) : nextT (a ++ 32 :: b) p = nextT a p := by
  unfold nextT at h ⊢
  rw [getD_app hp, wordT_app2 hp, numeralT_app2 hp]
  split
  · rfl
  · next h1 =>
    rw [if_neg h1] at h
    split
    · next h2 =>
      rw [if_pos h2] at h
      exact litT_app _ h
    · rfl

def blk : Nat → List UInt8
  | 0 => []
  | n + 1 => blk n ++ [cBl.getD (n % 4) 0]
theorem blk_len (n : Nat) : (blk n).length = n := by
  induction n with
  | zero => rfl
  | succ n ih => rw [blk, List.length_append, ih]; rfl
theorem blk_blank (n : Nat) : ∀ c ∈ blk n, cBl.contains c = true := by
  induction n with
  | zero => intro c h; cases h
  | succ n ih =>
    intro c h
    rw [blk] at h
    rcases List.mem_append.1 h with h | h
    · exact ih c h
    · rw [List.mem_singleton.1 h]
      have : n % 4 < 4 := Nat.mod_lt _ (by decide)
      have h4 : n % 4 = 0 ∨ n % 4 = 1 ∨ n % 4 = 2 ∨ n % 4 = 3 := by omega
      rcases h4 with e | e | e | e <;> rw [e] <;> decide
theorem blk_head : ∀ n : Nat, ∃ r, blk (n + 1) = 32 :: r
  | 0 => ⟨[], rfl⟩
  | n + 1 => by
    obtain ⟨r, e⟩ := blk_head n
    rw [blk, e]
    exact ⟨_, rfl⟩
theorem dropw_all (p : UInt8 → Bool) : ∀ x y : List UInt8, (∀ c ∈ x, p c = true) → (x ++ y).dropWhile p = y.dropWhile p := by
  intro x
  induction x with
  | nil => intro y _; rfl
  | cons c x ih =>
    intro y h
    rw [List.cons_append, List.dropWhile_cons, if_pos (h c (List.mem_cons_self ..))]
    exact ih y fun d hd => h d (List.mem_cons_of_mem _ hd)

def gapW (m : Nat) (s : List UInt8) : Nat → List Tok → List UInt8
  | _, [] => []
  | i, t :: r => blk (m + i % 2 + 1) ++ (cut s t.at_ t.fin ++ gapW m s (i + 1) r)
def gapT (m : Nat) : Nat → Nat → List Tok → List Tok
  | _, _, [] => []
  | o, i, t :: r => ⟨t.kind, o + (m + i % 2 + 1), o + (m + i % 2 + 1) + (t.fin - t.at_), t.text, 0⟩ :: gapT m (o + (m + i % 2 + 1) + (t.fin - t.at_)) (i + 1) r
theorem gapW_snoc (m : Nat) (s : List UInt8) (t : Tok) : ∀ (ts : List Tok) (i : Nat), gapW m s i (ts ++ [t]) = gapW m s i ts ++ blk (m + (i + ts.length) % 2 + 1) ++ cut s t.at_ t.fin := by
  intro ts
  induction ts with
  | nil => intro i; simp [gapW]
  | cons x r ih =>
    intro i
    rw [List.cons_append, gapW, gapW, ih (i + 1), List.length_cons, show i + 1 + r.length = i + (r.length + 1) by omega]
    simp
theorem gapT_snoc (m : Nat) (s : List UInt8) (t : Tok) : ∀ (ts : List Tok) (o i : Nat), (∀ x ∈ ts, (cut s x.at_ x.fin).length = x.fin - x.at_) → gapT m o i (ts ++ [t]) = gapT m o i ts ++ [⟨t.kind, o + (gapW m s i ts).length + (m + (i + ts.length) % 2 + 1), o + (gapW m s i ts).length + (m + (i + ts.length) % 2 + 1) + (t.fin - t.at_), t.text, 0⟩] := by
  intro ts
  induction ts with
  | nil => intro o i _; simp [gapT, gapW]
  | cons x r ih =>
    intro o i h
    have hx := h x (List.mem_cons_self ..)
    rw [List.cons_append, gapT, gapT, ih _ (i + 1) (fun y hy => h y (List.mem_cons_of_mem _ hy)), gapW, List.length_append, List.length_append, blk_len, hx, List.length_cons, show i + 1 + r.length = i + (r.length + 1) by omega, List.cons_append]
    congr 3
    simp only [Nat.add_assoc]
theorem gapW_len (m : Nat) (s : List UInt8) : ∀ (ts : List Tok) (i : Nat), (gapW m s i ts).length ≤ (m + 2) * ts.length + (ts.map fun t => (cut s t.at_ t.fin).length).sum := by
  intro ts
  induction ts with
  | nil => intro i; simp [gapW]
  | cons x r ih =>
    intro i
    have := ih (i + 1)
    rw [gapW, List.length_append, List.length_append, blk_len, List.length_cons, List.map_cons, List.sum_cons, Nat.mul_add]
    have : i % 2 < 2 := Nat.mod_lt _ (by decide)
    omega
theorem good_sum {l : List UInt8} : ∀ (ts : List Tok) (a : Nat), a ≤ l.length → Good l a ts → (ts.map fun t => (cut l t.at_ t.fin).length).sum ≤ l.length - a := by
  intro ts
  induction ts with
  | nil => intro a _ _; simp
  | cons x r ih =>
    intro a ha h
    obtain ⟨h1, h2, h3, h4⟩ := h
    have := ih x.fin h3 h4
    have hb := behL_ge (l := l) (p := a) cBl ha
    have hc : (cut l x.at_ x.fin).length ≤ x.fin - x.at_ := by unfold cut; rw [List.length_take]; omega
    rw [List.map_cons, List.sum_cons]
    omega

theorem next_noblank {s : List UInt8} {p : Nat} (h : (nextT s p).err = 0) : cBl.contains (s.getD p 0) = false := by
  cases hb : cBl.contains (s.getD p 0) with
  | false => rfl
  | true =>
    exfalso
    unfold nextT at h
    generalize s.getD p 0 = c at hb h
    simp only [cBl, List.contains_cons, List.contains_nil, Bool.or_false, Bool.or_eq_true, beq_iff_eq] at hb
    have g1 : cMk.contains c = false := by rcases hb with rfl | rfl | rfl | rfl <;> decide
    have g2 : c ≠ 34 := by rcases hb with rfl | rfl | rfl | rfl <;> decide
    have g3 : cLe.contains c = false := by rcases hb with rfl | rfl | rfl | rfl <;> decide
    have g4 : cDm.contains c = false := by rcases hb with rfl | rfl | rfl | rfl <;> decide
    rw [if_neg (by rw [g1]; decide), if_neg g2, if_neg (by rw [g3]; decide), if_neg (by rw [g4]; decide)] at h
    cases h
theorem gap_rest (m q : Nat) (s : List UInt8) : ∀ (ts : List Tok) (i F : Nat) (pre : List UInt8), (∀ t ∈ ts, t = nextT s t.at_ ∧ t.err = 0 ∧ t.at_ < s.length) → (gapW m s i ts ++ blk q).length < F → restY (pre ++ (gapW m s i ts ++ blk q)) F (behL (pre ++ (gapW m s i ts ++ blk q)) pre.length cBl) = gapT m pre.length i ts := by
  intro ts
  induction ts with
  | nil =>
    intro i F pre _ hF
    have hb : behL (pre ++ (gapW m s i [] ++ blk q)) pre.length cBl = (pre ++ (gapW m s i [] ++ blk q)).length := by
      unfold behL
      rw [List.drop_left, show gapW m s i [] ++ blk q = blk q ++ [] by simp [gapW], dropw_all _ _ _ (blk_blank q)]
      simp
    rw [hb]
    cases F with
    | zero => omega
    | succ F => rw [restY, if_neg (by omega)]; rfl
  | cons t r ih =>
    intro i F pre hall hF
    obtain ⟨ht, he, hlt⟩ := hall t (List.mem_cons_self ..)
    have he' : (nextT s t.at_).err = 0 := by rw [← ht]; exact he
    obtain ⟨c1, c2, c3, c4⟩ := nextT_cut hlt he'
    rw [← ht] at c1 c2 c3 c4
    have hup := nextT_up hlt he'
    rw [← ht] at hup
    have hnb := next_noblank he'
    have hg0 : (cut s t.at_ t.fin).getD 0 0 = s.getD t.at_ 0 := by
      unfold cut
      rw [getD_take (by omega)]
      rw [List.getD, List.getD, List.getElem?_drop, Nat.add_zero]
    rw [← hg0] at hnb
    generalize hn : m + i % 2 + 1 = n
    generalize hpc : cut s t.at_ t.fin = pc at *
    have eT : pre ++ (gapW m s i (t :: r) ++ blk q) = (pre ++ blk n) ++ (pc ++ (gapW m s (i + 1) r ++ blk q)) := by
      rw [gapW, hn, hpc]; simp
    have eT2 : pre ++ (gapW m s i (t :: r) ++ blk q) = (pre ++ blk n ++ pc) ++ (gapW m s (i + 1) r ++ blk q) := by
      rw [eT]; simp
    have hpl : (pre ++ blk n).length = pre.length + n := by rw [List.length_append, blk_len]
    have hb : behL (pre ++ (gapW m s i (t :: r) ++ blk q)) pre.length cBl = pre.length + n := by
      rw [eT]
      unfold behL
      rw [List.append_assoc, List.drop_left, dropw_all _ _ _ (blk_blank n)]
      cases pc with
      | nil => simp at c4; omega
      | cons c pc =>
        rw [List.cons_append, List.dropWhile_cons, if_neg (by simpa using hnb)]
        simp [blk_len]
        omega
    have hnx : nextT (pc ++ (gapW m s (i + 1) r ++ blk q)) 0 = nextT pc 0 := by
      have hpos : 0 < pc.length := by omega
      cases r with
      | nil =>
        cases q with
        | zero => rw [show gapW m s (i + 1) [] ++ blk 0 = [] from rfl, List.append_nil]
        | succ q =>
          obtain ⟨z, ez⟩ := blk_head q
          rw [show gapW m s (i + 1) [] ++ blk (q + 1) = 32 :: z by rw [ez]; rfl]
          exact nextT_app2 hpos c2
      | cons u r =>
        obtain ⟨z, ez⟩ := blk_head (m + (i + 1) % 2)
        rw [gapW, ez]
        exact nextT_app2 hpos c2
    have hnT : nextT (pre ++ (gapW m s i (t :: r) ++ blk q)) (pre.length + n) = shiftT (pre.length + n) (nextT pc 0) := by
      have := nextT_pre (x := pre ++ blk n) (b := pc ++ (gapW m s (i + 1) r ++ blk q)) (p := 0) (by rw [List.length_append]; omega)
      rw [hpl, Nat.add_zero, hnx, ← eT] at this
      exact this
    have hk : (nextT pc 0).kind = t.kind ∧ (nextT pc 0).text = t.text ∧ (nextT pc 0).at_ = 0 := by
      have h0 := nextT_at c2
      refine ⟨?_, ?_, h0⟩
      · rw [c1]; unfold shiftT; rw [if_pos c2]
      · rw [c1]; unfold shiftT; rw [if_pos c2]
    have hsh : shiftT (pre.length + n) (nextT pc 0) = ⟨t.kind, pre.length + n, pre.length + n + (t.fin - t.at_), t.text, 0⟩ := by
      unfold shiftT
      rw [if_pos c2, hk.1, hk.2.1, hk.2.2, c3]
      rfl
    have hlen : (gapW m s i (t :: r) ++ blk q).length = n + pc.length + (gapW m s (i + 1) r ++ blk q).length := by
      have := congrArg List.length eT2
      simp [blk_len] at this ⊢
      omega
    rw [hb]
    cases F with
    | zero => omega
    | succ F =>
      rw [restY, if_pos (by rw [List.length_append, hlen]; omega), hnT, if_pos (by rw [shiftT_err]; exact c2), hsh]
      dsimp only
      have := ih (i + 1) F (pre ++ blk n ++ pc) (fun u hu => hall u (List.mem_cons_of_mem _ hu)) (by omega)
      rw [← eT2] at this
      have hq : (pre ++ blk n ++ pc).length = pre.length + n + (t.fin - t.at_) := by rw [List.length_append, hpl, c4]
      rw [hq] at this
      rw [this, gapT, hn]
theorem restY_mem {l : List UInt8} : ∀ (f p : Nat), ∀ t ∈ restY l f p, ∃ q, q < l.length ∧ t = nextT l q := by
  intro f
  induction f with
  | zero => intro p t h; cases h
  | succ f ih =>
    intro p t h
    rw [restY] at h
    split at h
    · next hp =>
      split at h
      · rcases List.mem_cons.1 h with rfl | h
        · exact ⟨p, hp, rfl⟩
        · exact ih _ t h
      · rw [List.mem_singleton.1 h]; exact ⟨p, hp, rfl⟩
    · cases h
theorem allY_mem {l : List UInt8} {t : Tok} (h : t ∈ allY l) (he : t.err = 0) : t = nextT l t.at_ ∧ t.err = 0 ∧ t.at_ < l.length := by
  obtain ⟨q, hq, rfl⟩ := restY_mem _ _ t h
  have := nextT_at he
  refine ⟨?_, he, ?_⟩
  · rw [this]
  · rw [this]; exact hq
theorem allY_gap (m q : Nat) {s : List UInt8} (h : ∀ t ∈ allY s, t.err = 0) : allY (gapW m s 0 (allY s) ++ blk q) = gapT m 0 0 (allY s) := by
  have := gap_rest m q s (allY s) 0 ((gapW m s 0 (allY s) ++ blk q).length + 1) [] (fun t ht => allY_mem ht (h t ht)) (by omega)
  rw [List.nil_append] at this
  exact this
theorem gap_ok (m q : Nat) {s : List UInt8} (h : ∀ t ∈ allY s, t.err = 0) : ∀ t ∈ allY (gapW m s 0 (allY s) ++ blk q), t.err = 0 := by
  rw [allY_gap m q h]
  have : ∀ (ts : List Tok) (o i : Nat), ∀ t ∈ gapT m o i ts, t.err = 0 := by
    intro ts
    induction ts with
    | nil => intro o i t ht; cases ht
    | cons x r ih =>
      intro o i t ht
      rw [gapT] at ht
      rcases List.mem_cons.1 ht with rfl | ht
      · rfl
      · exact ih _ _ t ht
  exact this _ _ _
theorem gapT_len (m : Nat) : ∀ (ts : List Tok) (o i : Nat), (gapT m o i ts).length = ts.length := by
  intro ts
  induction ts with
  | nil => intro o i; rfl
  | cons x r ih => intro o i; rw [gapT, List.length_cons, List.length_cons, ih]
end Go.Proofs.YtcbngdkekdhfeaaGreatDoor
