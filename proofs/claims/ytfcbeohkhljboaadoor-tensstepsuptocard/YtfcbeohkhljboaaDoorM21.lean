import Derived.Test.YtfcbeohkhljboaaDoorM19
namespace Go.Proofs.YtfcbeohkhljboaaDoor.Pl
set_option linter.unusedVariables false
set_option linter.unusedSimpArgs false

theorem knuth {B P q D2 Dl W3 Wl : Nat} (hB : 0 < B) (hP : 0 < P) (h1 : q * D2 ≤ W3) (h2 : W3 < (q + 1) * D2) (hDl : Dl < P) (hWl : Wl < P) (hlt : Wl + P * W3 < (Dl + P * D2) * B) (hD2 : B ≤ D2) :
    q ≤ B ∧ Wl + P * W3 < (q + 1) * (Dl + P * D2) ∧ (0 < q → (q - 1) * (Dl + P * D2) ≤ Wl + P * W3) := by
  have a1 : W3 < (D2 + 1) * B := by
    rcases Nat.lt_or_ge W3 ((D2 + 1) * B) with h | h
    · exact h
    · have x := Nat.mul_le_mul_left P h
      have y : (Dl + P * D2) * B ≤ P * ((D2 + 1) * B) := by
        rw [← Nat.mul_assoc]
        apply Nat.mul_le_mul_right
        rw [Nat.mul_add]; omega
      omega
  have a2 : q ≤ B := by
    rcases Nat.lt_or_ge B q with h | h
    · have x : (B + 1) * D2 ≤ q * D2 := Nat.mul_le_mul_right _ h
      rw [Nat.add_mul] at x a1
      rw [Nat.mul_comm D2 B] at a1
      omega
    · exact h
  refine ⟨a2, ?_, ?_⟩
  · have x : P * (W3 + 1) ≤ P * ((q + 1) * D2) := Nat.mul_le_mul_left _ h2
    have y : (q + 1) * (Dl + P * D2) = (q + 1) * Dl + P * ((q + 1) * D2) := by rw [Nat.mul_add, Nat.mul_left_comm]
    rw [Nat.mul_add P W3 1] at x
    omega
  · intro hq
    obtain ⟨p, rfl⟩ : ∃ p, q = p + 1 := ⟨q - 1, by omega⟩
    rw [Nat.add_sub_cancel]
    have x : p * Dl ≤ P * p := by rw [Nat.mul_comm P p]; exact Nat.mul_le_mul_left _ (Nat.le_of_lt hDl)
    have y : p * (Dl + P * D2) = p * Dl + P * (p * D2) := by rw [Nat.mul_add, Nat.mul_left_comm]
    have z : p + p * D2 ≤ W3 := by rw [Nat.add_mul] at h1; omega
    have u := Nat.mul_le_mul_left P z
    rw [Nat.mul_add] at u
    omega

theorem drop_two {xs : List Nat} {n : Nat} (hl : xs.length = n) (hn : 2 ≤ n) : xs.drop (n - 2) = [xs.getD (n - 2) 0, xs.getD (n - 1) 0] := by
  obtain ⟨r, t, h1, h2, h3⟩ := drop_parts (rs := xs) (i := n - 2) (by omega)
  obtain ⟨r', t', h4, h5, h6⟩ := drop_parts (rs := xs) (i := n - 1) (by omega)
  have e : n - 2 + 1 = n - 1 := by omega
  rw [e] at h3
  have e2 : n - 1 + 1 = n := by omega
  rw [e2, List.drop_eq_nil_of_le (by omega)] at h6
  rw [h1, h2, h5, ← h3, h4, ← h6]

theorem drop_three {xs : List Nat} {n : Nat} (hl : xs.length = n + 1) (hn : 2 ≤ n) : xs.drop (n - 2) = [xs.getD (n - 2) 0, xs.getD (n - 1) 0, xs.getD n 0] := by
  obtain ⟨r, t, h1, h2, h3⟩ := drop_parts (rs := xs) (i := n - 2) (by omega)
  have e : n - 2 + 1 = n - 1 := by omega
  rw [e] at h3
  have := drop_two (xs := xs) (n := n + 1) hl (by omega)
  rw [show n + 1 - 2 = n - 1 by omega, show n + 1 - 1 = n by omega] at this
  rw [h1, h2, ← h3, this]

/-- one place of the quotient: how often b goes into the window -/
theorem guess_near {B : Nat} (hB : 1 < B) {ws bs : List Nat} {n q : Nat} (hlw : ws.length = n + 1) (hlb : bs.length = n) (hn : 2 ≤ n) (hdw : dig B ws) (hdb : dig B bs) (htop : 0 < bs.getD (n - 1) 0)
    (h1 : q * (bs.getD (n - 1) 0 * B + bs.getD (n - 2) 0) ≤ (ws.getD n 0 * B + ws.getD (n - 1) 0) * B + ws.getD (n - 2) 0) (h2 : (ws.getD n 0 * B + ws.getD (n - 1) 0) * B + ws.getD (n - 2) 0 < (q + 1) * (bs.getD (n - 1) 0 * B + bs.getD (n - 2) 0)) (hlt : val B ws < val B bs * B) :
    q ≤ B ∧ val B ws < (q + 1) * val B bs ∧ (0 < q → (q - 1) * val B bs ≤ val B ws) := by
  have hws := val_split B ws (n - 2) (by omega)
  have hbs := val_split B bs (n - 2) (by omega)
  rw [drop_three hlw hn] at hws
  rw [drop_two hlb hn] at hbs
  have ew : val B [ws.getD (n - 2) 0, ws.getD (n - 1) 0, ws.getD n 0] = (ws.getD n 0 * B + ws.getD (n - 1) 0) * B + ws.getD (n - 2) 0 := by
    simp only [val, Nat.mul_zero, Nat.add_zero]
    rw [Nat.mul_comm B, Nat.mul_comm B (ws.getD n 0), Nat.add_comm (ws.getD (n - 1) 0)]; omega
  have eb : val B [bs.getD (n - 2) 0, bs.getD (n - 1) 0] = bs.getD (n - 1) 0 * B + bs.getD (n - 2) 0 := by
    simp only [val, Nat.mul_zero, Nat.add_zero]
    rw [Nat.mul_comm B]; omega
  rw [ew] at hws
  rw [eb] at hbs
  have l1 := val_lt (dig_take (n - 2) hdw)
  have l2 := val_lt (dig_take (n - 2) hdb)
  rw [show (ws.take (n - 2)).length = n - 2 by simp; omega] at l1
  rw [show (bs.take (n - 2)).length = n - 2 by simp; omega] at l2
  have hD2 : B ≤ bs.getD (n - 1) 0 * B + bs.getD (n - 2) 0 := by
    have : 1 * B ≤ bs.getD (n - 1) 0 * B := Nat.mul_le_mul_right _ htop
    omega
  rw [hws, hbs] at hlt ⊢
  exact knuth (by omega) (Nat.pow_pos (by omega)) h1 h2 l2 l1 hlt hD2

/-- the division's state, place by place: V is what is divided, D the divisor -/
theorem div_step {B V D Q i q lowR W W' : Nat} (h : V = Q * (B ^ (i + 1) * D) + (lowR + B ^ i * W)) (hW : W = q * D + W') : V = (q + B * Q) * (B ^ i * D) + (lowR + B ^ i * W') := by
  rw [h, hW, Nat.pow_succ]
  generalize B ^ i = P
  have e1 : Q * (P * B * D) = B * Q * (P * D) := by
    rw [Nat.mul_comm P B, Nat.mul_assoc B P D, ← Nat.mul_assoc Q B, Nat.mul_comm Q B]
  have e2 : P * (q * D + W') = q * (P * D) + P * W' := by rw [Nat.mul_add, Nat.mul_left_comm]
  rw [e1, e2, Nat.add_mul]; omega

/-- what takeFrom left, put right by addTo -/
theorem put_right {T W D q c r r2 : Nat} (h : r + D * q = W + c * T) (hr : r2 = (r + D) % T) (hq : 0 < q) (h1 : (q - 1) * D ≤ W) (h2 : W < q * D) (hD : D ≤ T) : W = (q - 1) * D + r2 ∧ r2 < D := by
  obtain ⟨p, rfl⟩ : ∃ p, q = p + 1 := ⟨q - 1, by omega⟩
  rw [Nat.add_sub_cancel] at *
  have e : r + D = (W - p * D) + c * T := by
    rw [Nat.mul_add, Nat.mul_comm D p] at h; omega
  have hl : W - p * D < D := by rw [Nat.add_mul] at h2; omega
  rw [e, Nat.add_mul_mod_self_right, Nat.mod_eq_of_lt (by omega)] at hr
  omega

/-- the divisor, made great enough -/
theorem scale_len {B : Nat} (hB : 1 < B) {ys zs : List Nat} {n s : Nat} (hl : ys.length = n) (hn : 0 < n) (hd : dig B ys) (ht : Top ys) (hz : Top zs) (hdz : dig B zs) (hs : s = B / (ys.getD (n - 1) 0 + 1)) (hs1 : 0 < s) (hv : val B zs = val B ys * s) :
    zs.length = n ∧ ys.getD (n - 1) 0 * s ≤ zs.getD (n - 1) 0 := by
  have htop := top_last ht (by omega)
  rw [hl] at htop
  generalize hv1 : ys.getD (n - 1) 0 = v at *
  have hsp : val B ys = val B (ys.take (n - 1)) + B ^ (n - 1) * v := by
    have := val_take_succ B ys (n - 1)
    rw [show n - 1 + 1 = n by omega, List.take_of_length_le (by omega), hv1] at this
    exact this
  have hlow := val_lt (dig_take (n - 1) hd)
  rw [show (ys.take (n - 1)).length = n - 1 by simp; omega] at hlow
  have hsv : (v + 1) * s ≤ B := by rw [hs]; exact Nat.mul_div_le B (v + 1)
  have hup : val B zs < B ^ n := by
    rw [hv]
    have a : val B ys < B ^ (n - 1) * (v + 1) := by rw [hsp, Nat.mul_add]; omega
    have b : val B ys * s < B ^ (n - 1) * (v + 1) * s := Nat.mul_lt_mul_of_pos_right a hs1
    have c : B ^ (n - 1) * (v + 1) * s ≤ B ^ (n - 1) * B := by rw [Nat.mul_assoc]; exact Nat.mul_le_mul_left _ hsv
    rw [← Nat.pow_succ, show (n - 1).succ = n by omega] at c
    omega
  have hge : B ^ (n - 1) * (v * s) ≤ val B zs := by
    rw [hv, ← Nat.mul_assoc]; apply Nat.mul_le_mul_right; rw [hsp]; omega
  have h1 := len_of_val hB hz hup
  have hvs : 0 < v * s := Nat.mul_pos (by omega) hs1
  have h2 : n ≤ zs.length := by
    rcases Nat.lt_or_ge zs.length n with h | h
    · have a := val_lt hdz
      have b : B ^ zs.length ≤ B ^ (n - 1) := Nat.pow_le_pow_right (by omega) (by omega)
      have c : B ^ (n - 1) * 1 ≤ B ^ (n - 1) * (v * s) := Nat.mul_le_mul_left _ hvs
      omega
    · exact h
  refine ⟨by omega, ?_⟩
  have hsz : val B zs = val B (zs.take (n - 1)) + B ^ (n - 1) * zs.getD (n - 1) 0 := by
    have := val_take_succ B zs (n - 1)
    rw [show n - 1 + 1 = n by omega, List.take_of_length_le (by omega)] at this
    exact this
  have hlz := val_lt (dig_take (n - 1) hdz)
  rw [show (zs.take (n - 1)).length = n - 1 by simp; omega] at hlz
  rcases Nat.lt_or_ge (zs.getD (n - 1) 0) (v * s) with h | h
  · have a : B ^ (n - 1) * (zs.getD (n - 1) 0 + 1) ≤ B ^ (n - 1) * (v * s) := Nat.mul_le_mul_left _ h
    rw [Nat.mul_add] at a
    omega
  · exact h

theorem scale_great {v s : Nat} (hv : 0 < v) (hvB : v < 1000000000) (hs : s = 1000000000 / (v + 1)) : 250000000 ≤ v * s ∧ 0 < s ∧ s ≤ 500000000 := by
  have h1 := Nat.div_add_mod 1000000000 (v + 1)
  have h2 := Nat.mod_lt 1000000000 (show 0 < v + 1 by omega)
  rw [← hs] at h1
  have hs0 : 0 < s := by rw [hs]; exact Nat.div_pos (by omega) (by omega)
  have hs5 : s ≤ 500000000 := by
    rcases Nat.lt_or_ge 500000000 s with h | h
    · have : 2 * 500000001 ≤ (v + 1) * s := Nat.mul_le_mul (by omega) h
      omega
    · exact h
  refine ⟨?_, hs0, hs5⟩
  rcases Nat.lt_or_ge v 500000000 with h | h
  · have e : (v + 1) * s = v * s + s := by rw [Nat.add_mul, Nat.one_mul]
    have : s ≤ v * s := Nat.le_mul_of_pos_left s hv
    omega
  · have : v * 1 ≤ v * s := Nat.mul_le_mul_left _ hs0
    omega

theorem long_zero {B R lo i W n post D : Nat} (hB : 0 < B) (hv : R = lo + B ^ i * (W + B ^ (n + 1) * post)) (hlt : R < B ^ (i + 1) * D) (hD : D < B ^ n) (h0 : 0 < post) : False := by
  have a : B ^ (n + 1) * 1 ≤ B ^ (n + 1) * post := Nat.mul_le_mul_left _ h0
  have b : B ^ i * B ^ (n + 1) ≤ B ^ i * (W + B ^ (n + 1) * post) := Nat.mul_le_mul_left _ (by omega)
  have c : B ^ (i + 1) * D ≤ B ^ (i + 1) * B ^ n := Nat.mul_le_mul_left _ (Nat.le_of_lt hD)
  have e : B ^ i * B ^ (n + 1) = B ^ (i + 1) * B ^ n := by rw [← Nat.pow_add, ← Nat.pow_add]; congr 1; omega
  omega

theorem long_small {B R lo i W D : Nat} (hv : R = lo + B ^ i * W) (hlt : R < B ^ (i + 1) * D) : W < D * B := by
  rcases Nat.lt_or_ge W (D * B) with h | h
  · exact h
  · have a := Nat.mul_le_mul_left (B ^ i) h
    have e : B ^ i * (D * B) = B ^ (i + 1) * D := by rw [Nat.pow_succ, Nat.mul_assoc, Nat.mul_comm D B]
    omega

theorem long_less {P lo W D : Nat} (h : lo < P) (hlt : W < D) : lo + P * W < P * D := by
  have : P * (W + 1) ≤ P * D := Nat.mul_le_mul_left _ hlt
  rw [Nat.mul_add] at this
  omega

theorem long_first {B : Nat} {xs ys : List Nat} {la n s : Nat} (hx : dig B xs) (hla : xs.length = la) (hn : ys.length = n) (hnl : n ≤ la) (hn0 : 0 < n) (hge : B ^ (ys.length - 1) ≤ val B ys) (hs : 0 < s) : val B xs * s < B ^ (la - n + 1) * (val B ys * s) := by
  have h1 := val_lt hx
  rw [hla] at h1
  rw [hn] at hge
  have h2 : B ^ (la - n + 1) * B ^ (n - 1) ≤ B ^ (la - n + 1) * val B ys := Nat.mul_le_mul_left _ hge
  rw [← Nat.pow_add, show la - n + 1 + (n - 1) = la by omega] at h2
  rw [← Nat.mul_assoc]
  exact Nat.mul_lt_mul_of_pos_right (by omega) hs

theorem long_last {B X Y s D Q R : Nat} (hV : X * s = Q * (B ^ 0 * D) + R) (hlt : R < B ^ 0 * D) (hD : D = Y * s) (hs : 0 < s) : R = (X - Q * Y) * s ∧ (Q * Y ≤ X ∧ X - Q * Y < Y) := by
  rw [Nat.pow_zero, Nat.one_mul] at hV hlt
  subst hD
  rw [← Nat.mul_assoc] at hV
  have h1 : Q * Y * s ≤ X * s := by omega
  have h2 : Q * Y ≤ X := Nat.le_of_mul_le_mul_right h1 hs
  have h3 : R = (X - Q * Y) * s := by rw [Nat.sub_mul]; omega
  refine ⟨h3, h2, ?_⟩
  rw [h3] at hlt
  exact Nat.lt_of_mul_lt_mul_right hlt

theorem long_rest {X Y s Q R z l : Nat} (h1 : R = (X - Q * Y) * s) (h2 : Q * Y ≤ X ∧ X - Q * Y < Y) (h3 : z * s + l = R) (hl : l < s) (hs : 0 < s) : Q * Y + z = X ∧ z < Y := by
  have hz : z = X - Q * Y := by
    have a : (z * s + l) / s = z := by rw [Nat.mul_comm, Nat.mul_add_div hs, Nat.div_eq_of_lt hl]; omega
    have b : ((X - Q * Y) * s) / s = X - Q * Y := Nat.mul_div_cancel _ hs
    rw [h3, h1, b] at a
    exact a.symm
  omega

theorem near_ok {B W W' D q : Nat} (h : W' + D * q = W) (h2 : W < (q + 1) * D) (hW : W < D * B) : W = q * D + W' ∧ W' < D ∧ q < B := by
  have e : D * q = q * D := Nat.mul_comm _ _
  rw [Nat.add_mul] at h2
  refine ⟨by omega, by omega, ?_⟩
  rcases Nat.lt_or_ge q B with h3 | h3
  · exact h3
  · have := Nat.mul_le_mul_left D h3
    omega

end Go.Proofs.YtfcbeohkhljboaaDoor.Pl
