import Derived.Test.YtfcbeohkhljboaaDoorM19
namespace Go.Proofs.YtfcbeohkhljboaaDoor.Pl
set_option linter.unusedVariables false
set_option linter.unusedSimpArgs false

theorem four_mul (a b : Nat) : 4 * (a * b) ≤ (a + b) * (a + b) := by
  have h : (a + b) * (a + b) = a * a + a * b + (a * b + b * b) := by rw [Nat.mul_add, Nat.add_mul, Nat.add_mul, Nat.mul_comm b a]
  rcases Nat.le_total a b with h1 | h1
  · obtain ⟨d, rfl⟩ := Nat.exists_eq_add_of_le h1
    rw [h]
    have e1 : a * (a + d) = a * a + a * d := Nat.mul_add _ _ _
    have e2 : (a + d) * (a + d) = a * a + a * d + (a * d + d * d) := by rw [Nat.mul_add, Nat.add_mul, Nat.add_mul, Nat.mul_comm d a]
    omega
  · obtain ⟨d, rfl⟩ := Nat.exists_eq_add_of_le h1
    rw [h]
    have e1 : (b + d) * b = b * b + b * d := by rw [Nat.add_mul, Nat.mul_comm d b]
    have e2 : (b + d) * (b + d) = b * b + b * d + (b * d + d * d) := by rw [Nat.mul_add, Nat.add_mul, Nat.add_mul, Nat.mul_comm d b]
    omega

/-- a step of Newton's -/
theorem newton {A r q l t m : Nat} (hq : q * r + l = A) (hl : l < r) (ht : t * 2 + m = r + q) (hm : m < 2) (hr : A < (r + 1) * (r + 1)) :
    (r ≤ t → r * r ≤ A) ∧ A < (t + 1) * (t + 1) := by
  constructor
  · intro h
    have hqr : r ≤ q := by omega
    have : r * r ≤ q * r := Nat.mul_le_mul_right _ hqr
    omega
  · have h1 : A < r * (q + 1) := by rw [Nat.mul_add, Nat.mul_comm r q]; omega
    have h2 := four_mul r (q + 1)
    have h3 : (r + (q + 1)) * (r + (q + 1)) ≤ (2 * (t + 1)) * (2 * (t + 1)) := Nat.mul_le_mul (by omega) (by omega)
    have h4 : (2 * (t + 1)) * (2 * (t + 1)) = 4 * ((t + 1) * (t + 1)) := by
      rw [Nat.mul_mul_mul_comm]
    omega

theorem top_drop {xs : List Nat} (h : Top xs) (n : Nat) (hn : n < xs.length) : Top (xs.drop n) := by
  unfold Top
  have hl : (xs.drop n).length = xs.length - n := by simp
  have := trim_take (xs.drop n) (xs.drop n).length (Nat.le_refl _) (fun i hi => getD_past hi) (Or.inr (by
    rw [hl, List.getD_eq_getElem?_getD, List.getElem?_drop, show n + (xs.length - n - 1) = xs.length - 1 by omega]
    have := top_last h (by omega)
    rwa [List.getD_eq_getElem?_getD] at this))
  rw [this, List.take_length]

theorem top_zeros {xs : List Nat} (h : Top xs) (hp : 0 < xs.length) (n : Nat) : Top (List.replicate n 0 ++ xs) := by
  unfold Top
  have hl : (List.replicate n 0 ++ xs).length = n + xs.length := by simp
  have := trim_take (List.replicate n 0 ++ xs) (List.replicate n 0 ++ xs).length (Nat.le_refl _) (fun i hi => getD_past hi) (Or.inr (by
    rw [hl, List.getD_eq_getElem?_getD, List.getElem?_append_right (by simp; omega), List.length_replicate, show n + xs.length - 1 - n = xs.length - 1 by omega]
    have := top_last h hp
    rwa [List.getD_eq_getElem?_getD] at this))
  rw [this, List.take_length]

/-- the root of the upper half, and one more, is above the root -/
theorem root_above {B k A lo U r : Nat} (hA : A = lo + B ^ (2 * k) * U) (hlo : lo < B ^ (2 * k)) (hr : U < (r + 1) * (r + 1)) : A < (B ^ k * (r + 1)) * (B ^ k * (r + 1)) := by
  have e : (B ^ k * (r + 1)) * (B ^ k * (r + 1)) = B ^ (2 * k) * ((r + 1) * (r + 1)) := by
    rw [Nat.mul_mul_mul_comm, ← Nat.pow_add, show k + k = 2 * k by omega]
  rw [e]
  have : B ^ (2 * k) * (U + 1) ≤ B ^ (2 * k) * ((r + 1) * (r + 1)) := Nat.mul_le_mul_left _ hr
  rw [Nat.mul_add] at this
  omega

theorem sq_lt {a b : Nat} (h : a * a < b * b) : a < b := by
  rcases Nat.lt_or_ge a b with h1 | h1
  · exact h1
  · have := Nat.mul_le_mul h1 h1; omega

theorem root_len {B : Nat} (hB : 1 < B) {us rs : List Nat} (hd : dig B us) (ht : Top rs) (h : val B rs * val B rs ≤ val B us) : rs.length ≤ us.length := by
  refine len_of_val hB ht ?_
  have h1 := val_lt hd
  rcases Nat.eq_zero_or_pos (val B rs) with h0 | h0
  · rw [h0]; exact Nat.pow_pos (by omega)
  · have : val B rs * 1 ≤ val B rs * val B rs := Nat.mul_le_mul_left _ h0
    omega

end Go.Proofs.YtfcbeohkhljboaaDoor.Pl
