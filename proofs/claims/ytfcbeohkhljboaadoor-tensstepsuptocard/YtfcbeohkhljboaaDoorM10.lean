import Derived.Test.YtfcbeohkhljboaaDoorM2
namespace Go.Proofs.YtfcbeohkhljboaaDoor.Pl
set_option linter.unusedVariables false
set_option linter.unusedSimpArgs false

theorem val_take_succ (B : Nat) (xs : List Nat) (i : Nat) : val B (xs.take (i + 1)) = val B (xs.take i) + B ^ i * xs.getD i 0 := by
  by_cases h : i < xs.length
  · rw [List.take_succ_eq_append_getElem h, val_append]
    have e : (xs.take i).length = i := by simp; omega
    rw [e]
    have g : xs.getD i 0 = xs[i] := by simp [List.getElem?_eq_getElem h]
    rw [g]; simp [val]
  · rw [List.take_of_length_le (by omega), List.take_of_length_le (by omega), getD_past (by omega)]; simp

theorem val_snoc (B : Nat) (qs : List Nat) (x : Nat) : val B (qs ++ [x]) = val B qs + B ^ qs.length * x := by
  rw [val_append]; simp [val]

theorem val_take_all (B : Nat) (xs : List Nat) (n : Nat) (h : xs.length ≤ n) : val B (xs.take n) = val B xs := by
  rw [List.take_of_length_le h]

theorem step_add {B P Q R D c d r x y : Nat} (h : Q + c * P = R + D) (hs : x + y * B = c + d + r) : (Q + P * x) + y * (P * B) = (R + P * r) + (D + P * d) := by
  have h1 : P * (x + y * B) = P * (c + d + r) := by rw [hs]
  have h2 : y * (P * B) = P * (y * B) := by rw [Nat.mul_left_comm]
  have h3 : c * P = P * c := Nat.mul_comm _ _
  simp only [Nat.mul_add] at h1
  omega

theorem add_step {B : Nat} {qs rs ds : List Nat} {i c x y : Nat} (hq : qs.length = i) (h : val B qs + c * B ^ i = val B (rs.take i) + val B (ds.take i)) (hs : x + y * B = c + ds.getD i 0 + rs.getD i 0) :
    val B (qs ++ [x]) + y * B ^ (i + 1) = val B (rs.take (i + 1)) + val B (ds.take (i + 1)) := by
  rw [val_snoc, val_take_succ, val_take_succ, hq, Nat.pow_succ]
  exact step_add h hs

/-- what a sum leaves that ended with a carry, or at d's end without one -/
theorem add_end {B : Nat} (hB : 0 < B) {qs rs ds : List Nat} {n c : Nat} (hq : qs.length = n) (hr : rs.length = n) (hd : dig B qs) (h : val B qs + c * B ^ n = val B (rs.take n) + val B (ds.take n)) : val B qs = (val B rs + val B ds) % B ^ n := by
  rw [val_take_all B rs n (by omega)] at h
  have hlt := val_lt hd
  rw [hq] at hlt
  have hsplit : val B ds = val B (ds.take n) + B ^ (ds.take n).length * val B (ds.drop n) := by rw [← val_append, List.take_append_drop]
  by_cases hl : n ≤ ds.length
  · have e : (ds.take n).length = n := by simp; omega
    rw [e] at hsplit
    rw [hsplit, ← Nat.add_assoc, ← h, Nat.add_mul_mod_self_left, Nat.add_mul_mod_self_right, Nat.mod_eq_of_lt hlt]
  · have e : ds.take n = ds := List.take_of_length_le (by omega)
    rw [e] at h
    rw [← h, Nat.add_mul_mod_self_right, Nat.mod_eq_of_lt hlt]

theorem add_early {B : Nat} (hB : 0 < B) {qs rs ds : List Nat} {i n : Nat} (hq : qs.length = i) (hr : rs.length = n) (hi : i ≤ n) (hd : dig B qs) (hdr : dig B rs) (hl : ds.length ≤ i) (h : val B qs = val B (rs.take i) + val B (ds.take i)) : val B (qs ++ rs.drop i) = (val B rs + val B ds) % B ^ n := by
  have e : ds.take i = ds := List.take_of_length_le hl
  rw [e] at h
  have hs : val B rs = val B (rs.take i) + B ^ i * val B (rs.drop i) := by
    have : (rs.take i).length = i := by simp; omega
    conv => lhs; rw [← List.take_append_drop i rs]
    rw [val_append, this]
  have hv : val B (qs ++ rs.drop i) = val B rs + val B ds := by rw [val_append, hq, hs]; omega
  have hlt : val B (qs ++ rs.drop i) < B ^ (qs ++ rs.drop i).length := val_lt (dig_append.2 ⟨hd, dig_drop i hdr⟩)
  have hlen : (qs ++ rs.drop i).length = n := by simp; omega
  rw [hlen] at hlt
  rw [← hv, Nat.mod_eq_of_lt hlt]

/-- a difference's step: room' and d's times are room and the carry -/
theorem step_take {B P Q R D c d t r x y : Nat} (h : Q + D = R + c * P) (hs : x + (c + d * t) = r + y * B) : (Q + P * x) + (D + P * (d * t)) = (R + P * r) + y * (P * B) := by
  have h1 : P * (x + (c + d * t)) = P * (r + y * B) := by rw [hs]
  have h2 : y * (P * B) = P * (y * B) := by rw [Nat.mul_left_comm]
  have h3 : c * P = P * c := Nat.mul_comm _ _
  simp only [Nat.mul_add] at h1
  omega

theorem take_step {B : Nat} {qs rs ds : List Nat} {i c t x y : Nat} (hq : qs.length = i) (h : val B qs + val B (ds.take i) * t = val B (rs.take i) + c * B ^ i) (hs : x + (c + ds.getD i 0 * t) = rs.getD i 0 + y * B) :
    val B (qs ++ [x]) + val B (ds.take (i + 1)) * t = val B (rs.take (i + 1)) + y * B ^ (i + 1) := by
  rw [val_snoc, val_take_succ, val_take_succ, hq, Nat.pow_succ, Nat.add_mul, Nat.mul_assoc]
  exact step_take h hs

/-- a difference's end: the carry tells whether there was too little -/
theorem take_end {B : Nat} {qs rs ds : List Nat} {n c t : Nat} (hq : qs.length = n) (hr : rs.length = n) (hl : ds.length ≤ n) (hd : dig B qs) (h : val B qs + val B (ds.take n) * t = val B (rs.take n) + c * B ^ n) :
    val B qs + val B ds * t = val B rs + c * B ^ n ∧ (0 < c ↔ val B rs < val B ds * t) := by
  rw [val_take_all B rs n (by omega), val_take_all B ds n hl] at h
  refine ⟨h, ?_⟩
  have hlt := val_lt hd
  rw [hq] at hlt
  constructor
  · intro hc
    have : 1 * B ^ n ≤ c * B ^ n := Nat.mul_le_mul_right _ hc
    omega
  · intro hlt2
    rcases Nat.eq_zero_or_pos c with h0 | h0
    · subst h0; omega
    · exact h0

theorem take_early {B : Nat} {qs rs ds : List Nat} {i t : Nat} (hq : qs.length = i) (hi : i ≤ rs.length) (hl : ds.length ≤ i) (h : val B qs + val B (ds.take i) * t = val B (rs.take i)) :
    val B (qs ++ rs.drop i) + val B ds * t = val B rs := by
  rw [val_take_all B ds i hl] at h
  have hs : val B rs = val B (rs.take i) + B ^ i * val B (rs.drop i) := by
    have : (rs.take i).length = i := by simp; omega
    conv => lhs; rw [← List.take_append_drop i rs]
    rw [val_append, this]
  rw [val_append, hq, hs]; omega

theorem drop_parts {rs : List Nat} {i : Nat} (hi : i < rs.length) : ∃ r t, rs.drop i = r :: t ∧ rs.getD i 0 = r ∧ rs.drop (i + 1) = t :=
  ⟨rs[i], rs.drop (i + 1), List.drop_eq_getElem_cons hi, by simp [List.getElem?_eq_getElem hi], rfl⟩

theorem mid_set {pre qs rs post : List Nat} {o i x : Nat} (ho : pre.length = o) (hq : qs.length = i) (hi : i < rs.length) : (pre ++ (qs ++ rs.drop i) ++ post).set (o + i) x = pre ++ ((qs ++ [x]) ++ rs.drop (i + 1)) ++ post := by
  obtain ⟨r, t, h1, _, h3⟩ := drop_parts hi
  rw [h1, h3]
  subst ho hq
  simp [List.set_append]

theorem mid_get {pre qs rs post : List Nat} {o i : Nat} (ho : pre.length = o) (hq : qs.length = i) (hi : i < rs.length) : (pre ++ (qs ++ rs.drop i) ++ post).getD (o + i) 0 = rs.getD i 0 := by
  obtain ⟨r, t, h1, h2, _⟩ := drop_parts hi
  rw [h1, h2]
  subst ho hq
  rw [List.append_assoc, List.append_assoc, List.getD_eq_getElem?_getD, List.getElem?_append_right (by omega), List.getElem?_append_right (by omega)]
  have : pre.length + qs.length - pre.length - qs.length = 0 := by omega
  rw [this]; rfl

end Go.Proofs.YtfcbeohkhljboaaDoor.Pl
