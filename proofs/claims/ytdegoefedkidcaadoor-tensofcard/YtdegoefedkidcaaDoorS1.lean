import Derived.Test.YtdegoefedkidcaaDoorR0
import Derived.Test.YtdegoefedkidcaaDoorWalk2
import Derived.Test.YtdegoefedkidcaaDoorShelf2
import Derived.Lib.AtoiAll
import Derived.Lib.ItoaNum
namespace Go.Proofs.YtdegoefedkidcaaDoor
open Go.RowKit
set_option linter.unusedVariables false
set_option linter.unusedSimpArgs false

theorem s_dvl_append (l m : List UInt8) : Pl.dvl (l ++ m) = Pl.dvl l * 10 ^ m.length + Pl.dvl m := by
  induction l with
  | nil => simp [Pl.dvl_nil]
  | cons c r ih =>
    rw [List.cons_append, Pl.dvl_cons, Pl.dvl_cons, ih, List.length_append, Nat.pow_add, Nat.add_mul]
    have : 10 ^ r.length * 10 ^ m.length * (c.toNat - 48) = 10 ^ r.length * (c.toNat - 48) * 10 ^ m.length := by rw [Nat.mul_assoc, Nat.mul_comm (10 ^ m.length), Nat.mul_assoc]
    omega

theorem s_dec_props (u : Nat) : (Lib.decDigits u).all Pl.isDig = true ∧ Pl.dvl (Lib.decDigits u) = u ∧ (0 < u → Pl.plainB (Lib.decDigits u) = true) := by
  induction u using Nat.strongRecOn with
  | _ u ih =>
    have hch : ∀ x, x < 10 → (UInt8.ofNat (48 + x)).toNat = 48 + x := fun x hx => by
      rw [UInt8.toNat_ofNat']; omega
    by_cases h : u < 10
    · rw [Lib.decDigits_one h]
      have e := hch u h
      refine ⟨by simp [Pl.isDig, e]; omega, ?_, ?_⟩
      · rw [Pl.dvl_cons, Pl.dvl_nil, e]; simp
      · intro hp
        simp only [Pl.plainB, e]
        simp [Pl.isDig, e]; omega
    · rw [Lib.decDigits, dif_neg h]
      obtain ⟨h1, h2, h3⟩ := ih (u / 10) (by omega)
      have e := hch (u % 10) (by omega)
      have hall : (Lib.decDigits (u / 10) ++ [UInt8.ofNat (48 + u % 10)]).all Pl.isDig = true := by
        rw [List.all_append, h1]; simp [Pl.isDig, e]; omega
      refine ⟨hall, ?_, fun _ => ?_⟩
      · rw [s_dvl_append, h2, Pl.dvl_cons, Pl.dvl_nil, e]; simp; omega
      · have h4 := h3 (by omega)
        cases hd : Lib.decDigits (u / 10) with
        | nil => rw [hd] at h4; simp [Pl.plainB] at h4
        | cons c t =>
          rw [hd] at h4 hall
          simp only [Pl.plainB, List.cons_append, Bool.and_eq_true] at h4 hall ⊢
          exact ⟨h4.1, hall⟩


theorem parse_digits : ∀ (l : List UInt8) (acc : Nat), l.all Pl.isDig = true → acc < 18446744073709551616 → Lib.parseUint10 acc l = if acc * 10 ^ l.length + Pl.dvl l < 18446744073709551616 then .ok (acc * 10 ^ l.length + Pl.dvl l) else .range := by
  intro l
  induction l with
  | nil => intro acc _ h; simp [Lib.parseUint10, Pl.dvl_nil, h]
  | cons c r ih =>
    intro acc hd h
    simp only [List.all_cons, Bool.and_eq_true] at hd
    have hc := (Pl.isDig_iff c).1 hd.1
    rw [Lib.parseUint10, if_pos hc, Pl.dvl_cons]
    obtain ⟨d, hdd⟩ : ∃ d, d = c.toNat - 48 := ⟨_, rfl⟩
    rw [← hdd]
    have hd9 : d ≤ 9 := by omega
    have hp : 0 < 10 ^ r.length := Nat.pow_pos (by decide)
    have e : acc * 10 ^ (r.length + 1) + (Pl.dvl r + 10 ^ r.length * d) = (acc * 10 + d) * 10 ^ r.length + Pl.dvl r := by
      rw [Nat.pow_succ, Nat.add_mul, Nat.mul_assoc, Nat.mul_comm (10 ^ r.length) 10, Nat.mul_comm (10 ^ r.length) d]; omega
    rw [List.length_cons, e]
    have hge : acc * 10 + d ≤ (acc * 10 + d) * 10 ^ r.length := Nat.le_mul_of_pos_right _ hp
    by_cases h1 : 1844674407370955162 ≤ acc
    · rw [if_pos h1, if_neg (by omega)]
    · rw [if_neg h1]
      by_cases h2 : 18446744073709551616 ≤ acc * 10 + d
      · rw [if_pos h2, if_neg (by omega)]
      · rw [if_neg h2, ih (acc * 10 + d) hd.2 (by omega)]

theorem parse_mag {l : List UInt8} (hd : l.all Pl.isDig = true) (hn : l ≠ []) : Lib.parseMag l = if Pl.dvl l < 18446744073709551616 then .ok (Pl.dvl l) else .range := by
  unfold Lib.parseMag
  rw [if_neg hn, parse_digits l 0 hd (by decide)]
  simp

/-- strconv's reading of a number's text -/
theorem atoi_formed {l : List UInt8} (h : Pl.formed l = true) : Lib.atoiAll l = if -9223372036854775808 ≤ Pl.ival l ∧ Pl.ival l ≤ 9223372036854775807 then .ok (Pl.ival l) else .range := by
  have hc := Pl.formed_canon h
  have hd := Pl.canon_dig hc
  have hlen := Pl.canon_len hc
  cases l with
  | nil => exact absurd h (by decide)
  | cons c r =>
    dsimp only [Lib.atoiAll]
    by_cases hn : Pl.neg (c :: r) = true
    · have hc45 : c.toNat = 45 := by simpa [Pl.neg] using hn
      have hb : Pl.body (c :: r) = r := by unfold Pl.body; rw [hn]; rfl
      have hv : Pl.ival (c :: r) = -((Pl.dvl r : Nat) : Int) := by unfold Pl.ival; rw [hn, hb]; rfl
      rw [hb] at hd hlen
      have hr : r ≠ [] := by intro e; rw [e] at hlen; simp at hlen
      rw [if_pos (Or.inr hc45), parse_mag hd hr, hv]
      by_cases h1 : Pl.dvl r < 18446744073709551616
      · rw [if_pos h1]
        by_cases h2 : Pl.dvl r ≤ 9223372036854775808
        · rw [if_pos (by omega)]
          simp [hc45]; omega
        · rw [if_neg (by omega)]
          simp [hc45]; omega
      · rw [if_neg h1, if_neg (by omega)]
    · have hn' : Pl.neg (c :: r) = false := by simpa using hn
      have hc45 : ¬ c.toNat = 45 := by simpa [Pl.neg] using hn
      have hb : Pl.body (c :: r) = c :: r := by unfold Pl.body; rw [hn']; rfl
      have hv : Pl.ival (c :: r) = ((Pl.dvl (c :: r) : Nat) : Int) := by unfold Pl.ival; rw [hn', hb]; rfl
      rw [hb] at hd hlen
      have hdc : Pl.isDig c = true := by simp only [List.all_cons, Bool.and_eq_true] at hd; exact hd.1
      have hc43 : ¬ c.toNat = 43 := by have := (Pl.isDig_iff c).1 hdc; omega
      rw [if_neg (show ¬ (c.toNat = 43 ∨ c.toNat = 45) by omega), parse_mag hd (by simp), hv]
      by_cases h1 : Pl.dvl (c :: r) < 18446744073709551616
      · rw [if_pos h1]
        by_cases h2 : Pl.dvl (c :: r) ≤ 9223372036854775807
        · rw [if_pos (by omega)]
          simp [hc45]; omega
        · rw [if_neg (by omega)]
          simp [hc45]; omega
      · rw [if_neg h1, if_neg (by omega)]

/-- an int's text -/
theorem itoa_formed (n : Int) : Pl.formed (Lib.itoa n) = true ∧ Pl.ival (Lib.itoa n) = n := by
  unfold Lib.itoa
  by_cases h : n < 0
  · rw [if_pos h]
    obtain ⟨h1, h2, h3⟩ := s_dec_props n.natAbs
    have hp := h3 (by omega)
    have hb : Pl.body (45 :: Lib.decDigits n.natAbs) = Lib.decDigits n.natAbs := rfl
    refine ⟨by unfold Pl.formed; rw [hb, hp, Bool.or_true], ?_⟩
    have hn : Pl.neg (45 :: Lib.decDigits n.natAbs) = true := rfl
    unfold Pl.ival
    rw [hn, hb, h2]; simp; omega
  · rw [if_neg h]
    obtain ⟨h1, h2, h3⟩ := s_dec_props n.toNat
    rcases Nat.eq_zero_or_pos n.toNat with h0 | h0
    · rw [h0, Lib.decDigits_one (by decide)]
      exact ⟨by decide, by rw [show n = 0 by omega]; decide⟩
    · have hp := h3 h0
      have hn : Pl.neg (Lib.decDigits n.toNat) = false := by
        cases e : Lib.decDigits n.toNat with
        | nil => rfl
        | cons c t =>
          rw [e] at h1
          simp only [List.all_cons, Bool.and_eq_true] at h1
          have := (Pl.isDig_iff c).1 h1.1
          simp [Pl.neg]; omega
      have hb : Pl.body (Lib.decDigits n.toNat) = Lib.decDigits n.toNat := by unfold Pl.body; rw [hn]; rfl
      refine ⟨by unfold Pl.formed; rw [hb, hp, Bool.or_true], ?_⟩
      unfold Pl.ival
      rw [hn, hb, h2]; simp; omega

theorem long_out {s : ByteArray} (h : Pl.formed s.data.toList = true) (hl : 20 < s.size) : ¬ (-9223372036854775808 ≤ Pl.ival s.data.toList ∧ Pl.ival s.data.toList ≤ 9223372036854775807) := by
  have hb : 20 ≤ (Pl.body s.data.toList).length := by
    unfold Pl.body
    have := Pl.size_toList s
    split
    · rw [List.length_tail]; omega
    · omega
  have := Pl.canon_ge (Pl.formed_canon h) (by omega)
  have h2 : 10 ^ 19 ≤ 10 ^ ((Pl.body s.data.toList).length - 1) := Nat.pow_le_pow_right (by decide) (by omega)
  have h3 : (10 : Nat) ^ 19 = 10000000000000000000 := by decide
  unfold Pl.ival
  split <;> omega

theorem val_drop_le (xs : List Nat) (k : Nat) : Pl.val 10 (xs.drop k) ≤ Pl.val 10 xs := by
  conv => rhs; rw [← List.take_append_drop k xs]
  rw [Pl.val_append]
  have : Pl.val 10 (xs.drop k) ≤ 10 ^ (xs.take k).length * Pl.val 10 (xs.drop k) := Nat.le_mul_of_pos_left _ (Nat.pow_pos (by decide))
  omega
end Go.Proofs.YtdegoefedkidcaaDoor
