import Derived.Test.YtcadknhedfnaoaaGreatDoorM6
namespace Go.Proofs.YtcadknhedfnaoaaGreatDoor
set_option linter.unusedVariables false

/-! Knuth, Morris and Pratt: the longest beginning of p that ends u. -/
def IsMax (p : List UInt8) (k : Nat) (u : List UInt8) : Prop := k ≤ p.length ∧ p.take k <:+ u ∧ ∀ j, j ≤ p.length → p.take j <:+ u → j ≤ k

theorem suf_snoc {a u : List UInt8} {x b : UInt8} : (a ++ [x]) <:+ (u ++ [b]) ↔ x = b ∧ a <:+ u := by
  constructor
  · rintro ⟨t, ht⟩
    rw [← List.append_assoc] at ht
    have h := List.append_inj' ht rfl
    exact ⟨by simpa using h.2, ⟨t, h.1⟩⟩
  · rintro ⟨rfl, t, rfl⟩
    exact ⟨t, by simp⟩

theorem take_up {p : List UInt8} {k : Nat} (hk : k < p.length) : p.take (k + 1) = p.take k ++ [p[k]] := by
  rw [List.take_succ_eq_append_getElem hk]

theorem suf_step {p u : List UInt8} {b : UInt8} {k : Nat} (hk : k < p.length) : p.take (k + 1) <:+ u ++ [b] ↔ p[k] = b ∧ p.take k <:+ u := by
  rw [take_up hk, suf_snoc]

theorem suf_tail {a b : List UInt8} (h : a <:+ b) (hl : a.length < b.length) : a <:+ b.tail := by
  obtain ⟨t, rfl⟩ := h
  cases t with
  | nil => simp at hl
  | cons c t => exact ⟨t, rfl⟩

theorem len_take {p : List UInt8} {k : Nat} (h : k ≤ p.length) : (p.take k).length = k := by rw [List.length_take]; omega

theorem IsMax.uniq {p u : List UInt8} {k j : Nat} (h : IsMax p k u) (g : IsMax p j u) : k = j := Nat.le_antisymm (g.2.2 k h.1 h.2.1) (h.2.2 j g.1 g.2.1)

/-- while it is sought which beginning goes on -/
def Cand (p u : List UInt8) (b : UInt8) (k : Nat) : Prop := k ≤ p.length ∧ p.take k <:+ u ∧ ∀ j, j < p.length → p.take (j + 1) <:+ u ++ [b] → j ≤ k

theorem IsMax.cand {p u : List UInt8} {k : Nat} (h : IsMax p k u) (b : UInt8) : Cand p u b k :=
  ⟨h.1, h.2.1, fun j hj hs => h.2.2 j (by omega) ((suf_step hj).1 hs).2⟩

theorem Cand.fall {p u : List UInt8} {b : UInt8} {k k' : Nat} (h : Cand p u b k) (hk : 0 < k) (hne : k = p.length ∨ ∃ hl : k < p.length, p[k] ≠ b) (hm : IsMax p k' ((p.take k).tail)) : Cand p u b k' ∧ k' < k := by
  have hlt : k' < k := by
    have h1 := hm.2.1.length_le
    rw [len_take hm.1, List.length_tail, len_take h.1] at h1
    omega
  refine ⟨⟨hm.1, (hm.2.1.trans (List.tail_suffix _)).trans h.2.1, fun j hj hs => ?_⟩, hlt⟩
  have hjk := h.2.2 j hj hs
  have hj2 := (suf_step hj).1 hs
  have hjlt : j < k := by
    rcases Nat.lt_or_ge j k with g | g
    · exact g
    · have e : j = k := by omega
      subst e
      rcases hne with rfl | ⟨hl, hne⟩
      · omega
      · exact absurd hj2.1 hne
  refine hm.2.2 j (by omega) (suf_tail ?_ ?_)
  · exact List.suffix_of_suffix_length_le hj2.2 h.2.1 (by rw [len_take (by omega), len_take h.1]; omega)
  · rw [len_take (by omega), len_take h.1]; exact hjlt

theorem Cand.hit {p u : List UInt8} {b : UInt8} {k : Nat} (h : Cand p u b k) (hk : k < p.length) (hb : p[k] = b) : IsMax p (k + 1) (u ++ [b]) := by
  refine ⟨hk, (suf_step hk).2 ⟨hb, h.2.1⟩, fun j hj hs => ?_⟩
  cases j with
  | zero => omega
  | succ j => have := h.2.2 j (by omega) hs; omega

theorem Cand.miss {p u : List UInt8} {b : UInt8} (h : Cand p u b 0) (hk : 0 < p.length) (hb : p[0] ≠ b) : IsMax p 0 (u ++ [b]) := by
  refine ⟨by omega, by simp, fun j hj hs => ?_⟩
  cases j with
  | zero => omega
  | succ j =>
    have := h.2.2 j (by omega) hs
    have e : j = 0 := by omega
    subst e
    exact absurd ((suf_step hk).1 hs).1 hb

theorem isMax_nil {p : List UInt8} : IsMax p 0 [] := ⟨by omega, by simp, fun j hj hs => by
  have h := hs.length_le
  rw [len_take hj] at h
  simpa using h⟩

theorem tail_up {p : List UInt8} {i : Nat} (h0 : 0 < i) (hi : i < p.length) : (p.take i).tail ++ [p[i]] = (p.take (i + 1)).tail := by
  rw [take_up hi]
  rcases hp : p.take i with _ | ⟨c, t⟩
  · have := congrArg List.length hp
    rw [len_take (by omega)] at this
    simp at this
    omega
  · rfl

theorem IsMax.whole {p u : List UInt8} {k : Nat} (h : IsMax p k u) : k = p.length ↔ p <:+ u := by
  constructor
  · intro e
    have := h.2.1
    rwa [e, List.take_length] at this
  · intro hs
    have := h.2.2 p.length (Nat.le_refl _) (by rw [List.take_length]; exact hs)
    have := h.1
    omega

/-- p stands in t from q on -/
def OccAt (p t : List UInt8) (q : Nat) : Prop := q + p.length ≤ t.length ∧ (t.drop q).take p.length = p
instance (p t : List UInt8) (q : Nat) : Decidable (OccAt p t q) := by unfold OccAt; infer_instance

theorem occ_end {p t : List UInt8} {q i : Nat} (hi : i < t.length) (hq : q + p.length = i + 1) : p <:+ t.take (i + 1) ↔ OccAt p t q := by
  have hsp : t.take (i + 1) = t.take q ++ (t.drop q).take p.length := by
    rw [← hq, List.take_add]
  have hl : ((t.drop q).take p.length).length = p.length := by rw [List.length_take, List.length_drop]; omega
  constructor
  · intro h
    refine ⟨by omega, ?_⟩
    rw [hsp] at h
    have h2 : (t.drop q).take p.length <:+ t.take q ++ (t.drop q).take p.length := List.suffix_append _ _
    have h3 := List.suffix_of_suffix_length_le h h2 (by omega)
    exact (h3.eq_of_length hl.symm).symm
  · rintro ⟨_, h⟩
    rw [hsp, h]
    exact List.suffix_append _ _

/-- the places whose end lies within the first n bytes -/
def occs (p t : List UInt8) (n : Nat) : List Nat := (List.range n).filterMap fun i => if p.length ≤ i + 1 ∧ OccAt p t (i + 1 - p.length) then some (i + 1 - p.length) else none

theorem occs_up (p t : List UInt8) (n : Nat) : occs p t (n + 1) = occs p t n ++ (if p.length ≤ n + 1 ∧ OccAt p t (n + 1 - p.length) then [n + 1 - p.length] else []) := by
  unfold occs
  rw [List.range_succ, List.filterMap_append]
  congr 1
  by_cases hc : p.length ≤ n + 1 ∧ OccAt p t (n + 1 - p.length)
  · simp [hc]
  · rw [if_neg hc]; simp only [List.filterMap_cons, List.filterMap_nil, if_neg hc]

theorem occs_mem {p t : List UInt8} (hp : 0 < p.length) {n q : Nat} : q ∈ occs p t n ↔ q + p.length ≤ n ∧ OccAt p t q := by
  unfold occs
  rw [List.mem_filterMap]
  constructor
  · rintro ⟨i, hi, h⟩
    simp at hi
    split at h
    · rename_i hc
      simp at h
      subst h
      exact ⟨by omega, hc.2⟩
    · cases h
  · rintro ⟨h1, h2⟩
    refine ⟨q + p.length - 1, by simp; omega, ?_⟩
    have e : q + p.length - 1 + 1 - p.length = q := by omega
    rw [if_pos ⟨by omega, by rw [e]; exact h2⟩, e]

theorem occs_len {p t : List UInt8} (n : Nat) : (occs p t n).length ≤ n := by
  induction n with
  | zero => simp [occs]
  | succ n ih =>
    rw [occs_up, List.length_append]
    split <;> simp <;> omega

theorem occs_rise {p t : List UInt8} (hp : 0 < p.length) (n : Nat) : (occs p t n).Pairwise (· < ·) := by
  induction n with
  | zero => simp [occs]
  | succ n ih =>
    rw [occs_up, List.pairwise_append]
    refine ⟨ih, ?_, ?_⟩
    · split <;> simp
    · intro a ha b hb
      split at hb
      · simp at hb
        have := (occs_mem hp).1 ha
        omega
      · simp at hb
end Go.Proofs.YtcadknhedfnaoaaGreatDoor
