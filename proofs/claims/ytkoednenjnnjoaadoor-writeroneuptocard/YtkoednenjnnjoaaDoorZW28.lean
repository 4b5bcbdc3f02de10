import Derived.Test.YtkoednenjnnjoaaDoorZW25
namespace Go.Proofs.YtkoednenjnnjoaaDoor
open Go.RowKit
set_option linter.unusedVariables false
set_option linter.unusedSimpArgs false

theorem form_textB {h : Nat} {T : VT} (hf : formN (h + 1) T = true) (hk : T.kind = 4) : okB T.text.data.toList = true := by
  unfold formN formV at hf
  rw [hk] at hf
  simp only [show ¬ ((4 : Int) = 0 ∨ (4 : Int) = 1 ∨ (4 : Int) = 2) by omega, show ¬ (4 : Int) = 3 by omega, if_false, if_true, Bool.and_eq_true] at hf
  exact hf.1
theorem form_keysB {h : Nat} {T : VT} (hf : formN (h + 1) T = true) (hk : T.kind = 6) (i : Nat) (hi : i < T.keys.length) : okB (T.keys.getD i .empty).data.toList = true := by
  unfold formN formV at hf
  rw [hk] at hf
  simp only [show ¬ ((6 : Int) = 0 ∨ (6 : Int) = 1 ∨ (6 : Int) = 2) by omega, show ¬ (6 : Int) = 3 by omega, show ¬ (6 : Int) = 4 by omega, show ¬ (6 : Int) = 5 by omega, if_false, if_true, Bool.and_eq_true] at hf
  exact List.all_eq_true.1 hf.1.1.2.2 i (List.mem_range.2 hi)
/-- what may stand behind a number -/
def delim (r : List UInt8) : Prop := ∀ c t, r = c :: t → ¬ (48 ≤ c.toNat ∧ c.toNat ≤ 57)
theorem delim_cons {c : UInt8} {t : List UInt8} (h : ¬ (48 ≤ c.toNat ∧ c.toNat ≤ 57)) : delim (c :: t) := by
  intro c' t' e
  cases e
  exact h
theorem delim_nil : delim [] := by intro c t e; cases e
theorem digs_inj : ∀ (a b : List UInt8) (x y : List UInt8), (∀ c ∈ a, 48 ≤ c.toNat ∧ c.toNat ≤ 57) → (∀ c ∈ b, 48 ≤ c.toNat ∧ c.toNat ≤ 57) → delim x → delim y → a ++ x = b ++ y → a = b ∧ x = y
  | [], [], _, _, _, _, _, _, h => ⟨rfl, h⟩
  | [], c :: b, x, y, _, hb, hx, _, h => absurd (hb c (List.mem_cons_self ..)) (hx c (b ++ y) h)
  | c :: a, [], x, y, ha, _, _, hy, h => absurd (ha c (List.mem_cons_self ..)) (hy c (a ++ x) h.symm)
  | c :: a, d :: b, x, y, ha, hb, hx, hy, h => by
    simp only [List.cons_append, List.cons.injEq] at h
    obtain ⟨e1, e2⟩ := digs_inj a b x y (fun z hz => ha z (List.mem_cons_of_mem _ hz)) (fun z hz => hb z (List.mem_cons_of_mem _ hz)) hx hy h.2
    exact ⟨by rw [h.1, e1], e2⟩
theorem num_shape {l : List UInt8} (h : Pl.formed l = true) : ∃ c t, l = c :: t ∧ (c.toNat = 45 ∨ (48 ≤ c.toNat ∧ c.toNat ≤ 57)) ∧ ∀ x ∈ t, 48 ≤ x.toNat ∧ x.toNat ≤ 57 := by
  cases l with
  | nil => exact absurd h (by decide)
  | cons c t =>
    refine ⟨c, t, rfl, digits_of h c (List.mem_cons_self ..), ?_⟩
    unfold Pl.formed at h
    rcases Bool.or_eq_true_iff.1 h with h1 | h1
    · have e : c :: t = [48] := by simpa using h1
      cases e
      simp
    · have key : ∀ m : List UInt8, Pl.plainB m = true → ∀ x ∈ m, 48 ≤ x.toNat ∧ x.toNat ≤ 57 := by
        intro m hm x hx
        cases m with
        | nil => cases hm
        | cons a r =>
          simp only [Pl.plainB, Bool.and_eq_true] at hm
          have := List.all_eq_true.1 hm.2 x hx
          unfold Pl.isDig at this
          simpa using this
      unfold Pl.body at h1
      split at h1
      · exact key _ h1
      · exact fun x hx => key _ h1 x (List.mem_cons_of_mem _ hx)
theorem num_inj {a b x y : List UInt8} (ha : Pl.formed a = true) (hb : Pl.formed b = true) (hx : delim x) (hy : delim y) (h : a ++ x = b ++ y) : a = b ∧ x = y := by
  obtain ⟨c, t, rfl, _, ht⟩ := num_shape ha
  obtain ⟨c', t', rfl, _, ht'⟩ := num_shape hb
  simp only [List.cons_append, List.cons.injEq] at h
  obtain ⟨e1, e2⟩ := digs_inj t t' x y ht ht' hx hy h.2
  exact ⟨by rw [h.1, e1], e2⟩

theorem sgn_cases {z : Nat} {c : UInt8} (h : sgn z = some c) : (z = 34 ∧ c = 34) ∨ (z = 92 ∧ c = 92) ∨ (z = 8 ∧ c = 98) ∨ (z = 12 ∧ c = 102) ∨ (z = 10 ∧ c = 110) ∨ (z = 13 ∧ c = 114) ∨ (z = 9 ∧ c = 116) := by
  unfold sgn at h
  repeat' split at h
  all_goals first | (cases h; done) | (cases h; simp_all)
theorem sgn_inj {z z' : Nat} {c : UInt8} (h : sgn z = some c) (h' : sgn z' = some c) : z = z' := by
  rcases sgn_cases h with ⟨rfl, rfl⟩ | ⟨rfl, rfl⟩ | ⟨rfl, rfl⟩ | ⟨rfl, rfl⟩ | ⟨rfl, rfl⟩ | ⟨rfl, rfl⟩ | ⟨rfl, rfl⟩ <;>
    rcases sgn_cases h' with ⟨rfl, e⟩ | ⟨rfl, e⟩ | ⟨rfl, e⟩ | ⟨rfl, e⟩ | ⟨rfl, e⟩ | ⟨rfl, e⟩ | ⟨rfl, e⟩ <;> first | rfl | (revert e; decide)
theorem sgn_117 {z : Nat} (h : sgn z = some 117) : False := by
  rcases sgn_cases h with ⟨_, e⟩ | ⟨_, e⟩ | ⟨_, e⟩ | ⟨_, e⟩ | ⟨_, e⟩ | ⟨_, e⟩ | ⟨_, e⟩ <;> (revert e; decide)
theorem hx_inj : ∀ a, a < 16 → ∀ b, b < 16 → hx a = hx b → a = b := by decide
/-- the three forms of a rune in a literal -/
theorem qd_form (z : Nat) (hz : isR z) : (∃ c, sgn z = some c ∧ qd z = [92, c]) ∨ ((z < 32 ∨ z = 127) ∧ qd z = [92, 117, hx (z / 4096), hx (z / 256 % 16), hx (z / 16 % 16), hx (z % 16)]) ∨ (qd z = enc z ∧ ∀ c ∈ enc z, c ≠ 92 ∧ c ≠ 34) := by
  unfold qd
  split
  · rename_i c hs
    exact .inl ⟨c, hs, rfl⟩
  · rename_i hs
    split
    · rename_i h
      exact .inr (.inl ⟨h, rfl⟩)
    · exact .inr (.inr ⟨rfl, enc_ne hz (sgn_none hs).1 (sgn_none hs).2⟩)
theorem enc_cons (z : Nat) : ∃ b t, enc z = b :: t := by
  have := (enc_len z).1
  cases h : enc z with
  | nil => rw [h] at this; simp at this
  | cons b t => exact ⟨b, t, rfl⟩
theorem qd_inj {z z' : Nat} (hz : isR z) (hz' : isR z') {x y : List UInt8} (h : qd z ++ x = qd z' ++ y) : z = z' ∧ x = y := by
  rcases qd_form z hz with ⟨c, hs, e⟩ | ⟨hl, e⟩ | ⟨e, hn⟩
  · rcases qd_form z' hz' with ⟨c', hs', e'⟩ | ⟨hl', e'⟩ | ⟨e', hn'⟩
    · rw [e, e'] at h
      simp only [List.cons_append, List.nil_append, List.cons.injEq, true_and] at h
      obtain ⟨rfl, h2⟩ := h
      exact ⟨sgn_inj hs hs', h2⟩
    · rw [e, e'] at h
      simp only [List.cons_append, List.nil_append, List.cons.injEq, true_and] at h
      exact (sgn_117 (h.1 ▸ hs)).elim
    · rw [e, e'] at h
      obtain ⟨b, t, eb⟩ := enc_cons z'
      rw [eb] at h hn'
      simp only [List.cons_append, List.nil_append, List.cons.injEq] at h
      exact absurd h.1.symm (hn' b (List.mem_cons_self ..)).1
  · rcases qd_form z' hz' with ⟨c', hs', e'⟩ | ⟨hl', e'⟩ | ⟨e', hn'⟩
    · rw [e, e'] at h
      simp only [List.cons_append, List.nil_append, List.cons.injEq, true_and] at h
      exact (sgn_117 (h.1 ▸ hs')).elim
    · rw [e, e'] at h
      simp only [List.cons_append, List.nil_append, List.cons.injEq, true_and] at h
      obtain ⟨_, _, h3, h4, h5⟩ := h
      have g3 := hx_inj _ (by omega) _ (by omega) h3
      have g4 := hx_inj _ (by omega) _ (by omega) h4
      exact ⟨by omega, h5⟩
    · rw [e, e'] at h
      obtain ⟨b, t, eb⟩ := enc_cons z'
      rw [eb] at h hn'
      simp only [List.cons_append, List.nil_append, List.cons.injEq] at h
      exact absurd h.1.symm (hn' b (List.mem_cons_self ..)).1
  · rcases qd_form z' hz' with ⟨c', hs', e'⟩ | ⟨hl', e'⟩ | ⟨e', hn'⟩
    · rw [e, e'] at h
      obtain ⟨b, t, eb⟩ := enc_cons z
      rw [eb] at h hn
      simp only [List.cons_append, List.nil_append, List.cons.injEq] at h
      exact absurd h.1 (hn b (List.mem_cons_self ..)).1
    · rw [e, e'] at h
      obtain ⟨b, t, eb⟩ := enc_cons z
      rw [eb] at h hn
      simp only [List.cons_append, List.nil_append, List.cons.injEq] at h
      exact absurd h.1 (hn b (List.mem_cons_self ..)).1
    · rw [e, e'] at h
      have d1 := dec_enc z hz x
      have d2 := dec_enc z' hz' y
      rw [h, d2] at d1
      have ez : z' = z := congrArg Prod.fst d1
      subst ez
      exact ⟨rfl, List.append_cancel_left h⟩
theorem qd_head (z : Nat) (hz : isR z) : ∃ b t, qd z = b :: t ∧ b ≠ 34 := by
  rcases qd_form z hz with ⟨c, hs, e⟩ | ⟨hl, e⟩ | ⟨e, hn⟩
  · exact ⟨_, _, e, by decide⟩
  · exact ⟨_, _, e, by decide⟩
  · obtain ⟨b, t, eb⟩ := enc_cons z
    exact ⟨b, t, e.trans eb, (hn b (by rw [eb]; exact List.mem_cons_self ..)).2⟩
theorem qb_inj : ∀ (zs zs' : List Nat) (x y : List UInt8), (∀ z ∈ zs, isR z) → (∀ z ∈ zs', isR z) → qb zs ++ 34 :: x = qb zs' ++ 34 :: y → zs = zs' ∧ x = y
  | [], [], x, y, _, _, h => by simpa [qb] using h
  | [], z :: zs, x, y, _, hz, h => by
    obtain ⟨b, t, e, hb⟩ := qd_head z (hz z (List.mem_cons_self ..))
    rw [qb_cons, e] at h
    simp only [qb, List.flatMap_nil, List.nil_append, List.cons_append, List.cons.injEq] at h
    exact absurd h.1.symm hb
  | z :: zs, [], x, y, hz, _, h => by
    obtain ⟨b, t, e, hb⟩ := qd_head z (hz z (List.mem_cons_self ..))
    rw [qb_cons, e] at h
    simp only [qb, List.flatMap_nil, List.nil_append, List.cons_append, List.cons.injEq] at h
    exact absurd h.1 hb
  | z :: zs, z' :: zs', x, y, hz, hz', h => by
    rw [qb_cons, qb_cons, List.append_assoc, List.append_assoc] at h
    obtain ⟨rfl, h2⟩ := qd_inj (hz z (List.mem_cons_self ..)) (hz' z' (List.mem_cons_self ..)) h
    obtain ⟨rfl, h3⟩ := qb_inj zs zs' x y (fun w hw => hz w (List.mem_cons_of_mem _ hw)) (fun w hw => hz' w (List.mem_cons_of_mem _ hw)) h2
    exact ⟨rfl, h3⟩
theorem wQ_inj {l l' x y : List UInt8} (ho : okB l = true) (ho' : okB l' = true) (h : wQ l ++ x = wQ l' ++ y) : l = l' ∧ x = y := by
  unfold wQ at h
  simp only [List.cons_append, List.append_assoc, List.singleton_append, List.cons.injEq, true_and, List.nil_append] at h
  obtain ⟨e1, e2⟩ := qb_inj _ _ x y (runes_isR l) (runes_isR l') h
  have e3 : txt (runes l) = l := by unfold okB at ho; simpa using ho
  have e4 : txt (runes l') = l' := by unfold okB at ho'; simpa using ho'
  exact ⟨by rw [← e3, ← e4, e1], e2⟩

theorem joinR_split (g : Nat → List UInt8) (k : Nat) : ∀ m, joinR g (k + 1 + m) = joinR g k ++ (g k ++ joinR (fun i => g (k + 1 + i)) m)
  | 0 => by simp [joinR]
  | m + 1 => by
    show joinR g (k + 1 + m) ++ g (k + 1 + m) = _
    rw [joinR_split g k m]; simp [joinR]
/-- what stands behind the k-th item -/
def restW (o c : UInt8) (ln1 ln0 : List UInt8) (nm it : Nat → List UInt8) (N k : Nat) (r : List UInt8) : List UInt8 := joinR (fun i => pcW o ln1 nm it (k + 1 + i)) (N - (k + 1)) ++ (ln0 ++ c :: r)
theorem joinR_front (g : Nat → List UInt8) : ∀ m, 0 < m → ∃ t, joinR g m = g 0 ++ t
  | 0, h => by omega
  | 1, _ => ⟨[], by simp [joinR]⟩
  | m + 2, _ => by
    obtain ⟨t, e⟩ := joinR_front g (m + 1) (by omega)
    exact ⟨t ++ g (m + 1), by show joinR g (m + 1) ++ g (m + 1) = _; rw [e, List.append_assoc]⟩
theorem rest_delim (o c : UInt8) (ln1 ln0 : List UInt8) (nm it : Nat → List UInt8) (N k : Nat) (r : List UInt8) (hc : ¬ (48 ≤ c.toNat ∧ c.toNat ≤ 57)) (hl : ln0 = [] ∨ ∃ t, ln0 = 10 :: t) : delim (restW o c ln1 ln0 nm it N k r) := by
  unfold restW
  by_cases h : 0 < N - (k + 1)
  · obtain ⟨t, e⟩ := joinR_front (fun i => pcW o ln1 nm it (k + 1 + i)) _ h
    rw [e]
    have e2 : pcW o ln1 nm it (k + 1 + 0) = 44 :: (ln1 ++ (nm (k + 1) ++ it (k + 1))) := by
      simp only [pcW, sepW, Nat.add_zero]
      rw [if_neg (by omega)]; simp
    rw [e2]
    exact delim_cons (by decide)
  · rw [show N - (k + 1) = 0 by omega]
    rcases hl with rfl | ⟨t, rfl⟩
    · exact delim_cons hc
    · exact delim_cons (by decide)
theorem row_inj (o c : UInt8) (ln1 ln0 : List UInt8) (nm it nm' it' : Nat → List UInt8) (N N' : Nat) (r1 r2 : List UInt8) (Q : Nat → Prop) (hc : ¬ (48 ≤ c.toNat ∧ c.toNat ≤ 57)) (hc44 : c ≠ 44) (hl : ln0 = [] ∨ ∃ t, ln0 = 10 :: t)
    (hstep : ∀ i x y, i < N → i < N' → delim x → delim y → nm i ++ (it i ++ x) = nm' i ++ (it' i ++ y) → nm i = nm' i ∧ it i = it' i ∧ Q i ∧ x = y)
    (hne : ∀ x, 0 < N → ∃ b t, ln1 ++ (nm 0 ++ (it 0 ++ x)) = b :: t ∧ b ≠ c) (hne' : ∀ x, 0 < N' → ∃ b t, ln1 ++ (nm' 0 ++ (it' 0 ++ x)) = b :: t ∧ b ≠ c)
    (heq : rowW o c ln1 ln0 nm it N ++ r1 = rowW o c ln1 ln0 nm' it' N' ++ r2) : N = N' ∧ (∀ i, i < N → Q i) ∧ r1 = r2 := by
  have hcut : ∀ (nm it : Nat → List UInt8) (N k : Nat) (r : List UInt8), k < N → rowW o c ln1 ln0 nm it N ++ r = joinR (pcW o ln1 nm it) k ++ (sepW o k ++ (ln1 ++ (nm k ++ (it k ++ restW o c ln1 ln0 nm it N k r)))) := by
    intro nm it N k r hk
    unfold rowW restW
    rw [if_neg (by omega)]
    obtain ⟨m, rfl⟩ : ∃ m, N = k + 1 + m := ⟨N - (k + 1), by omega⟩
    rw [joinR_split, show k + 1 + m - (k + 1) = m by omega]
    simp [pcW]
  by_cases h0 : N = 0
  · by_cases h0' : N' = 0
    · subst h0 h0'
      refine ⟨rfl, fun i hi => by omega, ?_⟩
      simpa [rowW] using heq
    · exfalso
      rw [hcut nm' it' N' 0 r2 (by omega)] at heq
      obtain ⟨b, t, e, hb⟩ := hne' (restW o c ln1 ln0 nm' it' N' 0 r2) (by omega)
      rw [e] at heq
      subst h0
      simp [rowW, joinR, sepW] at heq
      exact hb heq.1.symm
  · by_cases h0' : N' = 0
    · exfalso
      rw [hcut nm it N 0 r1 (by omega)] at heq
      obtain ⟨b, t, e, hb⟩ := hne (restW o c ln1 ln0 nm it N 0 r1) (by omega)
      rw [e] at heq
      subst h0'
      simp [rowW, joinR, sepW] at heq
      exact hb heq.1
    · have main : ∀ k, k ≤ N → k ≤ N' → ∀ i, i < k → nm i = nm' i ∧ it i = it' i ∧ Q i := by
        intro k
        induction k with
        | zero => intro _ _ i hi; omega
        | succ k ih =>
          intro h1 h2
          have ihk := ih (by omega) (by omega)
          have hj : joinR (pcW o ln1 nm it) k = joinR (pcW o ln1 nm' it') k := joinR_congr (fun i hi => by
            obtain ⟨e1, e2, _⟩ := ihk i hi
            unfold pcW; rw [e1, e2])
          have he := heq
          rw [hcut nm it N k r1 (by omega), hcut nm' it' N' k r2 (by omega), hj] at he
          have he2 := List.append_cancel_left (List.append_cancel_left (List.append_cancel_left he))
          obtain ⟨e1, e2, e3, _⟩ := hstep k _ _ (by omega) (by omega) (rest_delim o c ln1 ln0 nm it N k r1 hc hl) (rest_delim o c ln1 ln0 nm' it' N' k r2 hc hl) he2
          intro i hi
          by_cases hik : i = k
          · subst hik; exact ⟨e1, e2, e3⟩
          · exact ihk i (by omega)
      have hend : ∀ (nm it : Nat → List UInt8) (N : Nat) (r : List UInt8), N ≠ 0 → rowW o c ln1 ln0 nm it N ++ r = joinR (pcW o ln1 nm it) N ++ (ln0 ++ c :: r) := by
        intro nm it N r hN
        unfold rowW; rw [if_neg hN]; simp
      have hbad : ∀ (z : List UInt8) (x : List UInt8), ln0 ++ c :: z = 44 :: x → False := by
        intro z x e
        rcases hl with rfl | ⟨t, rfl⟩
        · simp only [List.nil_append, List.cons.injEq] at e; exact hc44 e.1
        · simp only [List.cons_append, List.cons.injEq] at e; exact absurd e.1 (by decide)
      rcases Nat.lt_trichotomy N N' with hlt | heqN | hgt
      · exfalso
        have hm := main N (Nat.le_refl _) (by omega)
        have hj : joinR (pcW o ln1 nm it) N = joinR (pcW o ln1 nm' it') N := joinR_congr (fun i hi => by
          obtain ⟨e1, e2, _⟩ := hm i hi
          unfold pcW; rw [e1, e2])
        rw [hend nm it N r1 h0, hcut nm' it' N' N r2 hlt, hj] at heq
        have he := List.append_cancel_left heq
        have hs : sepW o N = [44] := by unfold sepW; rw [if_neg h0]
        rw [hs] at he
        exact hbad _ _ he
      · subst heqN
        have hm := main N (Nat.le_refl _) (Nat.le_refl _)
        have hj : joinR (pcW o ln1 nm it) N = joinR (pcW o ln1 nm' it') N := joinR_congr (fun i hi => by
          obtain ⟨e1, e2, _⟩ := hm i hi
          unfold pcW; rw [e1, e2])
        rw [hend nm it N r1 h0, hend nm' it' N r2 h0, hj] at heq
        have he := List.append_cancel_left (List.append_cancel_left heq)
        simp only [List.cons.injEq, true_and] at he
        exact ⟨rfl, fun i hi => (hm i hi).2.2, he⟩
      · exfalso
        have hm := main N' (by omega) (Nat.le_refl _)
        have hj : joinR (pcW o ln1 nm it) N' = joinR (pcW o ln1 nm' it') N' := joinR_congr (fun i hi => by
          obtain ⟨e1, e2, _⟩ := hm i hi
          unfold pcW; rw [e1, e2])
        rw [hend nm' it' N' r2 h0', hcut nm it N N' r1 hgt, hj] at heq
        have he := List.append_cancel_left heq
        have hs : sepW o N' = [44] := by unfold sepW; rw [if_neg h0']
        rw [hs] at he
        exact hbad _ _ he.symm
end Go.Proofs.YtkoednenjnnjoaaDoor
