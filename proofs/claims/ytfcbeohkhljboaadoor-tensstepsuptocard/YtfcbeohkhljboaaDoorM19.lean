import Derived.Test.YtfcbeohkhljboaaDoorM10
namespace Go.Proofs.YtfcbeohkhljboaaDoor.Pl
set_option linter.unusedVariables false
set_option linter.unusedSimpArgs false

theorem len_of_val {B n : Nat} (hB : 1 < B) {zs : List Nat} (ht : Top zs) (hv : val B zs < B ^ n) : zs.length ≤ n := by
  rcases Nat.eq_zero_or_pos zs.length with h | h
  · omega
  · have h1 := val_ge_top (B := B) h (top_last ht h)
    have h2 : B ^ (zs.length - 1) < B ^ n := Nat.lt_of_le_of_lt h1 hv
    have := (Nat.pow_lt_pow_iff_right hB).1 h2
    omega

theorem val_split (B : Nat) (xs : List Nat) (h : Nat) (hl : h ≤ xs.length) : val B xs = val B (xs.take h) + B ^ h * val B (xs.drop h) := by
  have e : (xs.take h).length = h := by simp; omega
  conv => lhs; rw [← List.take_append_drop h xs]
  rw [val_append, e]

theorem mul_lt_pow {B m n a b : Nat} (ha : a < B ^ m) (hb : b < B ^ n) : a * b < B ^ (m + n) := by
  rw [Nat.pow_add]
  rcases Nat.eq_zero_or_pos b with h | h
  · subst h; rw [Nat.mul_zero]; exact Nat.mul_pos (by omega) hb
  · exact Nat.lt_of_lt_of_le (Nat.mul_lt_mul_of_pos_right ha h) (Nat.mul_le_mul_left _ (Nat.le_of_lt hb))

/-- two halves, one factor: what stands in room in the end -/
theorem kara_two {B h n : Nat} (hB : 0 < B) {A0 A1 S room lowR upR up z : Nat} (hn : h ≤ n) (hroom : room = A0 * S) (hsplit : room = lowR + B ^ h * upR) (hz : z = A1 * S) (hup : up = (upR + z) % B ^ (n - h)) (hfit : (A0 + B ^ h * A1) * S < B ^ n) :
    lowR + B ^ h * up = (A0 + B ^ h * A1) * S := by
  have e : (A0 + B ^ h * A1) * S = lowR + B ^ h * (upR + z) := by
    rw [Nat.add_mul, ← hroom, hsplit, hz, Nat.mul_assoc, Nat.mul_add, Nat.add_assoc]
  have hlt : upR + z < B ^ (n - h) := by
    rcases Nat.lt_or_ge (upR + z) (B ^ (n - h)) with h1 | h1
    · exact h1
    · have h2 := Nat.mul_le_mul_left (B ^ h) h1
      rw [← Nat.pow_add, show h + (n - h) = n by omega] at h2
      omega
  rw [hup, Nat.mod_eq_of_lt hlt, e]

theorem kara_mod {T U1 M zl zh U2 U3 U4 c c' X : Nat} (h2 : U2 = (U1 + M) % T) (h3 : U3 + zl = U2 + c * T) (h4 : U4 + zh = U3 + c' * T) (hM : M = zl + zh + X) (hlt : U1 + X < T) (h4lt : U4 < T) : U4 = U1 + X := by
  have hd := Nat.div_add_mod (U1 + M) T
  rw [← h2] at hd
  generalize (U1 + M) / T = k at *
  have e : U4 + k * T = (U1 + X) + (c + c') * T := by
    rw [Nat.add_mul, Nat.mul_comm k T]; omega
  have e1 : (U4 + k * T) % T = U4 := by rw [Nat.add_mul_mod_self_right, Nat.mod_eq_of_lt h4lt]
  have e2 : ((U1 + X) + (c + c') * T) % T = U1 + X := by rw [Nat.add_mul_mod_self_right, Nat.mod_eq_of_lt hlt]
  rw [e] at e1
  omega

/-- both factors halved -/
theorem kara_three {B h n : Nat} (hB : 0 < B) {A0 A1 B0 B1 room lowR U1 U2 U3 U4 c c' M zl zh : Nat} (hn : h ≤ n) (hzl : zl = A0 * B0) (hzh : zh = A1 * B1) (hroom : room = A0 * B0 + B ^ (2 * h) * (A1 * B1)) (hsplit : room = lowR + B ^ h * U1) (hM : M = (A0 + A1) * (B0 + B1))
    (h2 : U2 = (U1 + M) % B ^ (n - h)) (h3 : U3 + zl = U2 + c * B ^ (n - h)) (h4 : U4 + zh = U3 + c' * B ^ (n - h)) (h4lt : U4 < B ^ (n - h)) (hfit : (A0 + B ^ h * A1) * (B0 + B ^ h * B1) < B ^ n) :
    lowR + B ^ h * U4 = (A0 + B ^ h * A1) * (B0 + B ^ h * B1) := by
  have hX : M = zl + zh + (A0 * B1 + A1 * B0) := by
    rw [hM, hzl, hzh, Nat.mul_add, Nat.add_mul, Nat.add_mul]; omega
  have e : (A0 + B ^ h * A1) * (B0 + B ^ h * B1) = lowR + B ^ h * (U1 + (A0 * B1 + A1 * B0)) := by
    have p2 : B ^ (2 * h) * (A1 * B1) = B ^ h * (B ^ h * (A1 * B1)) := by rw [show 2 * h = h + h by omega, Nat.pow_add, Nat.mul_assoc]
    rw [p2] at hroom
    generalize B ^ h = P at *
    have x1 : (A0 + P * A1) * (B0 + P * B1) = A0 * B0 + P * (A0 * B1) + (P * (A1 * B0) + P * (P * (A1 * B1))) := by
      rw [Nat.add_mul, Nat.mul_add, Nat.mul_add, Nat.mul_left_comm A0 P B1, Nat.mul_assoc P A1 B0, Nat.mul_assoc P A1 (P * B1), Nat.mul_left_comm A1 P B1]
    rw [x1, Nat.mul_add, Nat.mul_add]
    omega
  have hlt : U1 + (A0 * B1 + A1 * B0) < B ^ (n - h) := by
    rcases Nat.lt_or_ge (U1 + (A0 * B1 + A1 * B0)) (B ^ (n - h)) with h1 | h1
    · exact h1
    · have h2 := Nat.mul_le_mul_left (B ^ h) h1
      rw [← Nat.pow_add, show h + (n - h) = n by omega] at h2
      omega
  rw [kara_mod h2 h3 h4 hX hlt h4lt, e]

/-- the upper product is laid above the lower one -/
theorem kara_lay {B h2 n : Nat} (hB : 0 < B) {low room lowR upR up z : Nat} (hn : h2 ≤ n) (hsplit : low = lowR + B ^ h2 * upR) (hup : up = (upR + z) % B ^ (n - h2)) (hfit : low + B ^ h2 * z < B ^ n) : lowR + B ^ h2 * up = low + B ^ h2 * z := by
  have e : low + B ^ h2 * z = lowR + B ^ h2 * (upR + z) := by rw [hsplit, Nat.mul_add]; omega
  have hlt : upR + z < B ^ (n - h2) := by
    rcases Nat.lt_or_ge (upR + z) (B ^ (n - h2)) with h1 | h1
    · exact h1
    · have h3 := Nat.mul_le_mul_left (B ^ h2) h1
      rw [← Nat.pow_add, show h2 + (n - h2) = n by omega] at h3
      omega
  rw [hup, Nat.mod_eq_of_lt hlt, e]

theorem kara_fit2 {B h n A0 A1 B0 B1 : Nat} (hfit : (A0 + B ^ h * A1) * (B0 + B ^ h * B1) < B ^ n) : A0 * B0 + B ^ (2 * h) * (A1 * B1) < B ^ n := by
  have p2 : B ^ (2 * h) * (A1 * B1) = B ^ h * (B ^ h * (A1 * B1)) := by rw [show 2 * h = h + h by omega, Nat.pow_add, Nat.mul_assoc]
  rw [p2]
  generalize B ^ h = P at *
  have x1 : (A0 + P * A1) * (B0 + P * B1) = A0 * B0 + P * (A0 * B1) + (P * (A1 * B0) + P * (P * (A1 * B1))) := by
    rw [Nat.add_mul, Nat.mul_add, Nat.mul_add, Nat.mul_left_comm A0 P B1, Nat.mul_assoc P A1 B0, Nat.mul_assoc P A1 (P * B1), Nat.mul_left_comm A1 P B1]
  omega

theorem mul_len {B : Nat} (hB : 1 < B) {xs ys zs : List Nat} {n : Nat} (hx : dig B xs) (hy : dig B ys) (ht : Top zs) (hv : val B zs = val B xs * val B ys) (hn : xs.length + ys.length ≤ n) : zs.length ≤ n := by
  refine len_of_val hB ht ?_
  rw [hv]
  exact Nat.lt_of_lt_of_le (mul_lt_pow (val_lt hx) (val_lt hy)) (Nat.pow_le_pow_right (by omega) hn)

theorem mul_fit {B : Nat} {xs ys : List Nat} (hx : dig B xs) (hy : dig B ys) : val B xs * val B ys < B ^ (xs.length + ys.length) := mul_lt_pow (val_lt hx) (val_lt hy)

/-- the two products of a halved factor, put together in one row -/
theorem two_end {B : Nat} (hB : 0 < B) {L S R rs' z2 z4 : List Nat} {h : Nat} (hL : dig B L) (hS : dig B S) (hh : h ≤ L.length) (hRl : R.length = L.length + S.length) (hRv : val B R = val B z2) (hv2 : val B z2 = val B (trimN (L.take h)) * val B S) (hv4 : val B z4 = val B (L.drop h) * val B S)
    (hv5 : val B rs' = (val B (R.drop h) + val B z4) % B ^ (L.length + S.length - h)) : val B (R.take h ++ rs') = val B L * val B S := by
  have ht : (R.take h).length = h := by simp; omega
  rw [val_append, ht, val_split B L h hh]
  refine kara_two (n := L.length + S.length) hB (by omega) (room := val B R) (upR := val B (R.drop h)) (z := val B z4) ?_ (val_split _ R h (by omega)) hv4 hv5 ?_
  · rw [hRv, hv2, val_trim]
  · rw [← val_split B L h hh]; exact mul_fit hL hS

/-- the three products of two halved factors, put together in one row -/
theorem three_lay {B : Nat} (hB : 0 < B) {L S R rs' zl zh : List Nat} {h : Nat} (hL : dig B L) (hS : dig B S) (hh : h ≤ L.length) (hs : h ≤ S.length) (hRl : R.length = L.length + S.length) (hRv : val B R = val B zl) (hvl : val B zl = val B (trimN (L.take h)) * val B (trimN (S.take h))) (hvh : val B zh = val B (L.drop h) * val B (S.drop h))
    (hv5 : val B rs' = (val B (R.drop (2 * h)) + val B zh) % B ^ (L.length + S.length - 2 * h)) (h2h : 2 * h ≤ L.length + S.length) :
    val B (R.take (2 * h) ++ rs') = val B (L.take h) * val B (S.take h) + B ^ (2 * h) * (val B (L.drop h) * val B (S.drop h)) := by
  have ht : (R.take (2 * h)).length = 2 * h := by simp; omega
  have hfit := kara_fit2 (B := B) (h := h) (n := L.length + S.length) (A0 := val B (L.take h)) (A1 := val B (L.drop h)) (B0 := val B (S.take h)) (B1 := val B (S.drop h)) (by rw [← val_split B L h hh, ← val_split B S h hs]; exact mul_fit hL hS)
  rw [val_append, ht, ← hvh]
  rw [← hvh] at hfit
  rw [val_trim, val_trim] at hvl
  rw [← hvl] at hfit ⊢
  exact kara_lay (room := 0) hB h2h (by rw [← hRv]; exact val_split _ R (2 * h) (by omega)) hv5 hfit

theorem three_end {B : Nat} (hB : 0 < B) {L S R U2 U3 U4 zl zh m : List Nat} {h c c' : Nat} (hL : dig B L) (hS : dig B S) (hh : h ≤ L.length) (hs : h ≤ S.length) (hRl : R.length = L.length + S.length) (hRv : val B R = val B (L.take h) * val B (S.take h) + B ^ (2 * h) * (val B (L.drop h) * val B (S.drop h)))
    (hvl : val B zl = val B (trimN (L.take h)) * val B (trimN (S.take h))) (hvh : val B zh = val B (L.drop h) * val B (S.drop h)) (hm : val B m = (val B (trimN (L.take h)) + val B (L.drop h)) * (val B (trimN (S.take h)) + val B (S.drop h)))
    (h2 : val B U2 = (val B (R.drop h) + val B m) % B ^ (L.length + S.length - h)) (h3 : val B U3 + val B zl * 1 = val B U2 + c * B ^ (L.length + S.length - h)) (h4 : val B U4 + val B zh * 1 = val B U3 + c' * B ^ (L.length + S.length - h)) (hd4 : dig B U4) (hl4 : U4.length = L.length + S.length - h) :
    val B (R.take h ++ U4) = val B L * val B S := by
  have ht : (R.take h).length = h := by simp; omega
  rw [val_trim, val_trim] at hvl hm
  rw [Nat.mul_one] at h3 h4
  rw [val_append, ht, val_split B L h hh, val_split B S h hs]
  have h4lt := val_lt hd4
  rw [hl4] at h4lt
  exact kara_three (n := L.length + S.length) hB (by omega) hvl hvh hRv (val_split _ R h (by omega)) hm h2 h3 h4 h4lt (by rw [← val_split B L h hh, ← val_split B S h hs]; exact mul_fit hL hS)

theorem sum_len {B : Nat} (hB : 1 < B) {xs ys zs : List Nat} {n : Nat} (hx : dig B xs) (hy : dig B ys) (ht : Top zs) (hv : val B zs = val B xs + val B ys) (h1 : xs.length ≤ n) (h2 : ys.length ≤ n) : zs.length ≤ n + 1 := by
  refine len_of_val hB ht ?_
  have a1 := val_lt hx
  have a2 := val_lt hy
  have b1 : B ^ xs.length ≤ B ^ n := Nat.pow_le_pow_right (by omega) h1
  have b2 : B ^ ys.length ≤ B ^ n := Nat.pow_le_pow_right (by omega) h2
  have b3 : B ^ n * 2 ≤ B ^ n * B := Nat.mul_le_mul_left _ hB
  rw [Nat.pow_succ]
  omega

end Go.Proofs.YtfcbeohkhljboaaDoor.Pl
