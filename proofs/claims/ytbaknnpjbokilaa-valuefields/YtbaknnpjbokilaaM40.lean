import Derived.Test.YtbaknnpjbokilaaM39
import Derived.Sort.Walk0
namespace Go.Proofs.Ytbaknnpjbokilaa
open Go.RowKit Go.Maps Go.Sort Go.Shelf
set_option linter.unusedVariables false
set_option linter.unusedSimpArgs false

/-! The tree that Merge makes, by what stands at a key. -/
def kL (x y : ByteArray) : Prop := x.toList < y.toList
theorem kL.trans {x y z : ByteArray} (h : kL x y) (k : kL y z) : kL x z := List.lt_trans h k
theorem kL.irr {x : ByteArray} : ¬ kL x x := List.lt_irrefl _
theorem ba_ext {x y : ByteArray} (h : x.toList = y.toList) : x = y := by
  rw [Lib.toList_data, Lib.toList_data] at h
  cases x; cases y
  simp at h
  rw [h]
theorem cmp_lt {x y : ByteArray} (h : Pl.cmpS x.toList y.toList = -1) : kL x y := by
  unfold Pl.cmpS at h
  rw [bytesLess_eq] at h
  by_cases h1 : x.toList < y.toList
  · exact h1
  · rw [decide_eq_false h1, if_neg (by simp)] at h
    split at h <;> omega
theorem cmp_eq {x y : ByteArray} (h : Pl.cmpS x.toList y.toList = 0) : x = y := by
  unfold Pl.cmpS at h
  rw [bytesLess_eq] at h
  split at h
  · omega
  · split at h
    · next h2 => exact ba_ext (by simpa using h2)
    · omega
theorem cmp_gt {x y : ByteArray} (h : Pl.cmpS x.toList y.toList = 1) : kL y x := by
  unfold Pl.cmpS at h
  rw [bytesLess_eq] at h
  split at h
  · omega
  · next h1 =>
    split at h
    · omega
    · next h2 =>
      have h1' : ¬ x.toList < y.toList := by simpa using h1
      have h2' : ¬ x.toList = y.toList := by simpa using h2
      rcases Std.le_total (a := x.toList) (b := y.toList) with h3 | h3
      · rcases List.le_iff_lt_or_eq.1 h3 with h4 | h4
        · exact absurd h4 h1'
        · exact absurd h4 h2'
      · rcases List.le_iff_lt_or_eq.1 h3 with h4 | h4
        · exact h4
        · exact absurd h4.symm h2'
/-- keys that rise -/
def RiF (ka : Nat → ByteArray) (K : Nat) : Prop := ∀ p q, p < q → q < K → kL (ka p) (ka q)
theorem RiF.le {ka : Nat → ByteArray} {K : Nat} (h : RiF ka K) {p q : Nat} (hpq : p ≤ q) (hq : q < K) {x : ByteArray} (hx : kL x (ka p)) : kL x (ka q) := by
  rcases Nat.lt_or_ge p q with h1 | h1
  · exact hx.trans (h p q h1 hq)
  · have : p = q := by omega
    rw [← this]; exact hx
/-- what the way of two places takes of the rest -/
def InM (ka kb : Nat → ByteArray) (K L i j : Nat) : Nat ⊕ Nat → Prop
  | .inl p => i ≤ p ∧ p < K ∧ ∀ q, j ≤ q → q < L → kb q ≠ ka p
  | .inr q => j ≤ q ∧ q < L
/-- near, told by the keys -/
theorem near_told {ka kb : Nat → ByteArray} {K L i j : Nat} (ra : RiF ka K) (rb : RiF kb L) (h : i < K ∨ j < L) :
    (nearI (K - i) (L - j) (ka i) (kb j) = -1 ∧ i < K ∧ ∀ q, j ≤ q → q < L → kL (ka i) (kb q)) ∨
    (nearI (K - i) (L - j) (ka i) (kb j) = 1 ∧ j < L ∧ ∀ p, i ≤ p → p < K → kL (kb j) (ka p)) ∨
    (nearI (K - i) (L - j) (ka i) (kb j) = 0 ∧ i < K ∧ j < L ∧ ka i = kb j) := by
  unfold nearI
  by_cases h1 : K - i = 0
  · rw [if_pos h1]
    exact .inr (.inl ⟨rfl, by omega, fun p h2 h3 => by omega⟩)
  · rw [if_neg h1]
    by_cases h2 : L - j = 0
    · rw [if_pos h2]
      exact .inl ⟨rfl, by omega, fun q h3 h4 => by omega⟩
    · rw [if_neg h2]
      rcases cmpS_three (ka i).toList (kb j).toList with e | e | e
      · exact .inl ⟨e, by omega, fun q h3 h4 => rb.le h3 h4 (cmp_lt e)⟩
      · exact .inr (.inr ⟨e, by omega, by omega, cmp_eq e⟩)
      · exact .inr (.inl ⟨e, by omega, fun p h3 h4 => ra.le h3 h4 (cmp_gt e)⟩)
theorem uni_step {ka kb : Nat → ByteArray} {K L f i j : Nat} (h : i < K ∨ j < L) :
    (nearI (K - i) (L - j) (ka i) (kb j) = -1 → uniF ka kb K L (f + 1) i j = .inl i :: uniF ka kb K L f (i + 1) j) ∧
    (nearI (K - i) (L - j) (ka i) (kb j) = 1 → uniF ka kb K L (f + 1) i j = .inr j :: uniF ka kb K L f i (j + 1)) ∧
    (nearI (K - i) (L - j) (ka i) (kb j) = 0 → uniF ka kb K L (f + 1) i j = .inr j :: uniF ka kb K L f (i + 1) (j + 1)) := by
  refine ⟨fun e => ?_, fun e => ?_, fun e => ?_⟩
  · rw [uniF, if_pos h, if_pos e]
  · rw [uniF, if_pos h, if_neg (by rw [e]; decide), if_pos e]
  · rw [uniF, if_pos h, if_neg (by rw [e]; decide), if_neg (by rw [e]; decide)]
theorem uni_mem {ka kb : Nat → ByteArray} {K L : Nat} (ra : RiF ka K) (rb : RiF kb L) : ∀ (f i j : Nat), i ≤ K → j ≤ L → (K - i) + (L - j) ≤ f → ∀ x, x ∈ uniF ka kb K L f i j ↔ InM ka kb K L i j x
  | 0, i, j, hi, hj, hf, x => by
    rw [uniF]
    constructor
    · intro h; cases h
    · intro h
      cases x with
      | inl p => obtain ⟨h1, h2, _⟩ := h; omega
      | inr q => obtain ⟨h1, h2⟩ := h; omega
  | f + 1, i, j, hi, hj, hf, x => by
    by_cases h : i < K ∨ j < L
    · obtain ⟨s1, s2, s3⟩ := uni_step (f := f) (ka := ka) (kb := kb) h
      rcases near_told ra rb h with ⟨e, h1, ht⟩ | ⟨e, h1, ht⟩ | ⟨e, h1, h2, ht⟩
      · rw [s1 e, List.mem_cons, uni_mem ra rb f (i + 1) j (by omega) hj (by omega) x]
        cases x with
        | inl p =>
          constructor
          · rintro (h2 | ⟨h2, h3, h4⟩)
            · injection h2 with h2
              subst h2
              exact ⟨Nat.le_refl _, h1, fun q h3 h4 h5 => by have := ht q h3 h4; rw [h5] at this; exact kL.irr this⟩
            · exact ⟨by omega, h3, h4⟩
          · rintro ⟨h2, h3, h4⟩
            rcases Nat.lt_or_ge i p with h5 | h5
            · exact .inr ⟨h5, h3, h4⟩
            · have : p = i := by omega
              subst this
              exact .inl rfl
        | inr q =>
          constructor
          · rintro (h2 | h2)
            · cases h2
            · exact h2
          · exact fun h2 => .inr h2
      · rw [s2 e, List.mem_cons, uni_mem ra rb f i (j + 1) hi (by omega) (by omega) x]
        cases x with
        | inl p =>
          constructor
          · rintro (h2 | ⟨h2, h3, h4⟩)
            · cases h2
            · refine ⟨h2, h3, fun q h5 h6 h7 => ?_⟩
              rcases Nat.lt_or_ge j q with h8 | h8
              · exact h4 q h8 h6 h7
              · have : q = j := by omega
                subst this
                have := ht p h2 h3
                rw [h7] at this
                exact kL.irr this
          · rintro ⟨h2, h3, h4⟩
            exact .inr ⟨h2, h3, fun q h5 h6 => h4 q (by omega) h6⟩
        | inr q =>
          constructor
          · rintro (h2 | ⟨h2, h3⟩)
            · injection h2 with h2
              subst h2
              exact ⟨Nat.le_refl _, h1⟩
            · exact ⟨by omega, h3⟩
          · rintro ⟨h2, h3⟩
            rcases Nat.lt_or_ge j q with h5 | h5
            · exact .inr ⟨h5, h3⟩
            · have : q = j := by omega
              subst this
              exact .inl rfl
      · rw [s3 e, List.mem_cons, uni_mem ra rb f (i + 1) (j + 1) (by omega) (by omega) (by omega) x]
        cases x with
        | inl p =>
          constructor
          · rintro (h3 | ⟨h3, h4, h5⟩)
            · cases h3
            · refine ⟨by omega, h4, fun q h6 h7 h8 => ?_⟩
              rcases Nat.lt_or_ge j q with h9 | h9
              · exact h5 q h9 h7 h8
              · have : q = j := by omega
                subst this
                have := ra i p h3 h4
                rw [← h8, ht] at this
                exact kL.irr this
          · rintro ⟨h3, h4, h5⟩
            rcases Nat.lt_or_ge i p with h6 | h6
            · exact .inr ⟨h6, h4, fun q h7 h8 => h5 q (by omega) h8⟩
            · have : p = i := by omega
              subst this
              exact absurd ht.symm (h5 j (Nat.le_refl _) h2)
        | inr q =>
          constructor
          · rintro (h3 | ⟨h3, h4⟩)
            · injection h3 with h3
              subst h3
              exact ⟨Nat.le_refl _, h2⟩
            · exact ⟨by omega, h4⟩
          · rintro ⟨h3, h4⟩
            rcases Nat.lt_or_ge j q with h5 | h5
            · exact .inr ⟨h5, h4⟩
            · have : q = j := by omega
              subst this
              exact .inl rfl
    · rw [uniF, if_neg h]
      constructor
      · intro h1; cases h1
      · intro h1
        cases x with
        | inl p => obtain ⟨h2, h3, _⟩ := h1; omega
        | inr q => obtain ⟨h2, h3⟩ := h1; omega
/-- its keys rise -/
theorem uni_rise {ka kb : Nat → ByteArray} {K L : Nat} (ra : RiF ka K) (rb : RiF kb L) : ∀ (f i j : Nat), i ≤ K → j ≤ L → (K - i) + (L - j) ≤ f → (uniF ka kb K L f i j).Pairwise fun x y => kL (kyU ka kb x) (kyU ka kb y)
  | 0, i, j, hi, hj, hf => by rw [uniF]; exact List.Pairwise.nil
  | f + 1, i, j, hi, hj, hf => by
    by_cases h : i < K ∨ j < L
    · obtain ⟨s1, s2, s3⟩ := uni_step (f := f) (ka := ka) (kb := kb) h
      rcases near_told ra rb h with ⟨e, h1, ht⟩ | ⟨e, h1, ht⟩ | ⟨e, h1, h2, ht⟩
      · rw [s1 e, List.pairwise_cons]
        refine ⟨fun x hx => ?_, uni_rise ra rb f (i + 1) j (by omega) hj (by omega)⟩
        have hm := (uni_mem ra rb f (i + 1) j (by omega) hj (by omega) x).1 hx
        cases x with
        | inl p => exact ra i p (by have := hm.1; omega) hm.2.1
        | inr q => exact ht q hm.1 hm.2
      · rw [s2 e, List.pairwise_cons]
        refine ⟨fun x hx => ?_, uni_rise ra rb f i (j + 1) hi (by omega) (by omega)⟩
        have hm := (uni_mem ra rb f i (j + 1) hi (by omega) (by omega) x).1 hx
        cases x with
        | inl p => exact ht p hm.1 hm.2.1
        | inr q => exact rb j q (by have := hm.1; omega) hm.2
      · rw [s3 e, List.pairwise_cons]
        refine ⟨fun x hx => ?_, uni_rise ra rb f (i + 1) (j + 1) (by omega) (by omega) (by omega)⟩
        have hm := (uni_mem ra rb f (i + 1) (j + 1) (by omega) (by omega) (by omega) x).1 hx
        cases x with
        | inl p =>
          show kL (kb j) (ka p)
          rw [← ht]
          exact ra i p (by have := hm.1; omega) hm.2.1
        | inr q => exact rb j q (by have := hm.1; omega) hm.2
    · rw [uniF, if_neg h]
      exact List.Pairwise.nil
end Go.Proofs.Ytbaknnpjbokilaa
