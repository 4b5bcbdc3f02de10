import Derived.Test.YtgnaeddpdomgkabDoorTen31
namespace Go.Proofs.YtgnaeddpdomgkabDoor
open Go.RowKit
set_option linter.unusedVariables false
set_option linter.unusedSimpArgs false

theorem dvl_inj : ∀ (p q : List UInt8), p.length = q.length → p.all Pl.isDig = true → q.all Pl.isDig = true → Pl.dvl p = Pl.dvl q → p = q := by
  intro p
  induction p with
  | nil => intro q h _ _ _; cases q with | nil => rfl | cons => simp at h
  | cons c r ih =>
    intro q h h1 h2 h3
    cases q with
    | nil => simp at h
    | cons d t =>
      simp only [List.length_cons, Nat.add_right_cancel_iff] at h
      simp only [List.all_cons, Bool.and_eq_true] at h1 h2
      have a1 := Pl.dvl_lt r h1.2
      have a2 := Pl.dvl_lt t h2.2
      rw [Pl.dvl_cons, Pl.dvl_cons, ← h] at h3
      rw [← h] at a2
      have c1 := (Pl.isDig_iff c).1 h1.1
      have d1 := (Pl.isDig_iff d).1 h2.1
      have hp : 0 < 10 ^ r.length := Nat.pow_pos (by decide)
      have e1 : c.toNat - 48 = d.toNat - 48 := by
        have g1 : (Pl.dvl r + 10 ^ r.length * (c.toNat - 48)) / 10 ^ r.length = c.toNat - 48 := by
          rw [Nat.add_mul_div_left _ _ hp, Nat.div_eq_of_lt a1, Nat.zero_add]
        have g2 : (Pl.dvl t + 10 ^ r.length * (d.toNat - 48)) / 10 ^ r.length = d.toNat - 48 := by
          rw [Nat.add_mul_div_left _ _ hp, Nat.div_eq_of_lt a2, Nat.zero_add]
        rw [← g1, ← g2, h3]
      rw [e1] at h3
      have e2 : Pl.dvl r = Pl.dvl t := by omega
      have e3 : c = d := UInt8.toNat_inj.1 (by omega)
      rw [e3, ih t h h1.2 h2.2 e2]

theorem canon_inj {p q : List UInt8} (hp : Pl.canon p) (hq : Pl.canon q) (h : Pl.dvl p = Pl.dvl q) : p = q := by
  have hl : p.length = q.length := by
    rcases Nat.lt_trichotomy p.length q.length with h1 | h1 | h1
    · have := Pl.len_lt hp hq h1; omega
    · exact h1
    · have := Pl.len_lt hq hp h1; omega
  exact dvl_inj p q hl (Pl.canon_dig hp) (Pl.canon_dig hq) h

theorem neg_split {l : List UInt8} (h : Pl.neg l = true) : l = 45 :: Pl.body l := by
  unfold Pl.body
  rw [if_pos h]
  cases l with
  | nil => cases h
  | cons c t =>
    have : c = 45 := UInt8.toNat_inj.1 (by simpa [Pl.neg] using h)
    rw [this]; rfl

/-- a number has one text -/
theorem ival_inj {p q : List UInt8} (hp : Pl.formed p = true) (hq : Pl.formed q = true) (h : Pl.ival p = Pl.ival q) : p = q := by
  cases np : Pl.neg p <;> cases nq : Pl.neg q
  · have e1 : Pl.body p = p := by unfold Pl.body; rw [np]; rfl
    have e2 : Pl.body q = q := by unfold Pl.body; rw [nq]; rfl
    unfold Pl.ival at h
    rw [np, nq] at h
    simp only [Bool.false_eq_true, if_false] at h
    rw [← e1, ← e2]
    exact canon_inj (Pl.formed_canon hp) (Pl.formed_canon hq) (by omega)
  · have := Pl.plain_pos (Pl.formed_neg hq nq)
    unfold Pl.ival at h
    rw [np, nq] at h
    simp only [Bool.false_eq_true, if_false, if_true] at h
    omega
  · have := Pl.plain_pos (Pl.formed_neg hp np)
    unfold Pl.ival at h
    rw [np, nq] at h
    simp only [Bool.false_eq_true, if_false, if_true] at h
    omega
  · unfold Pl.ival at h
    rw [np, nq] at h
    simp only [if_true] at h
    rw [neg_split np, neg_split nq, canon_inj (Pl.formed_canon hp) (Pl.formed_canon hq) (by omega)]

theorem bytes_ext {a b : ByteArray} (h : a.data.toList = b.data.toList) : a = b := by
  cases a; cases b; simp at h; simp [h]

theorem text_inj {a b : ByteArray} (ha : Pl.formed a.data.toList = true) (hb : Pl.formed b.data.toList = true) (h : Pl.ival a.data.toList = Pl.ival b.data.toList) : a = b := bytes_ext (ival_inj ha hb h)

theorem dvl_pos {l : List UInt8} (h : Pl.formed l = true) (hn : l ≠ [48]) : 0 < Pl.dvl (Pl.body l) := by
  unfold Pl.formed at h
  rw [Bool.or_eq_true] at h
  rcases h with h | h
  · exact absurd (by simpa using h) hn
  · exact Pl.plain_pos h

/-- how long a number's text is -/
theorem text_size {r : ByteArray} {K : Nat} (hf : Pl.formed r.data.toList = true) (hz : (Pl.ival r.data.toList).natAbs < 10 ^ K) (hK : 0 < K) : r.size ≤ K + 1 := by
  have h1 : (Pl.body r.data.toList).length ≤ K := by
    rcases Nat.lt_or_ge 1 (Pl.body r.data.toList).length with h | h
    · have := Pl.canon_ge (Pl.formed_canon hf) h
      rw [natAbs_ival] at hz
      have h2 : 10 ^ ((Pl.body r.data.toList).length - 1) < 10 ^ K := by omega
      have := (Nat.pow_lt_pow_iff_right (by decide : 1 < 10)).1 h2
      omega
    · omega
  have h2 : r.data.toList.length = r.size := Array.length_toList
  unfold Pl.body at h1
  split at h1
  · rw [List.length_tail] at h1; omega
  · omega

end Go.Proofs.YtgnaeddpdomgkabDoor
