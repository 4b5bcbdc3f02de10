/- The order of texts is the order of what they are worth. No Go here. -/
import Derived.Test.YthcohnnikmpjkaaDigits
namespace Go.Proofs.Ythcohnnikmpjkaa.Pl
set_option linter.unusedVariables false
set_option linter.unusedSimpArgs false

/-- what a row of digits' letters is worth -/
def dvl (l : List UInt8) : Nat := val 10 (digs l)

theorem digs_length (l : List UInt8) : (digs l).length = l.length := by simp [digs]
theorem dvl_nil : dvl [] = 0 := rfl
theorem dvl_cons (c : UInt8) (r : List UInt8) : dvl (c :: r) = dvl r + 10 ^ r.length * (c.toNat - 48) := by
  unfold dvl
  have : digs (c :: r) = digs r ++ [c.toNat - 48] := by simp [digs]
  rw [this, val_append, digs_length]
  simp [val]

theorem digs_dig (l : List UInt8) (h : l.all isDig = true) : dig 10 (digs l) := by
  intro x hx
  simp only [digs, List.mem_reverse, List.mem_map] at hx
  obtain ⟨c, hc, rfl⟩ := hx
  have := (isDig_iff c).1 (List.all_eq_true.1 h c hc)
  omega

theorem dvl_lt (l : List UInt8) (h : l.all isDig = true) : dvl l < 10 ^ l.length := by
  have := val_lt (digs_dig l h)
  rwa [digs_length] at this

theorem dvl_ge (c : UInt8) (r : List UInt8) (h : isDig c = true) (h0 : ¬ c.toNat = 48) : 10 ^ r.length ≤ dvl (c :: r) := by
  rw [dvl_cons]
  have := (isDig_iff c).1 h
  have h1 : 10 ^ r.length * 1 ≤ 10 ^ r.length * (c.toNat - 48) := Nat.mul_le_mul_left _ (by omega)
  omega

/-- a text that is a number's: [48], or one without a nought ahead -/
def canon (l : List UInt8) : Prop := l = [48] ∨ plainB l = true

theorem canon_dig {l : List UInt8} (h : canon l) : l.all isDig = true := by
  rcases h with rfl | h
  · decide
  · cases l with
    | nil => simp [plainB] at h
    | cons c r => simp only [plainB, Bool.and_eq_true] at h; exact h.2

theorem canon_len {l : List UInt8} (h : canon l) : 0 < l.length := by
  rcases h with rfl | h
  · decide
  · cases l with
    | nil => simp [plainB] at h
    | cons c r => simp

theorem canon_ge {l : List UInt8} (h : canon l) (hl : 1 < l.length) : 10 ^ (l.length - 1) ≤ dvl l := by
  rcases h with rfl | h
  · simp at hl
  · cases l with
    | nil => simp [plainB] at h
    | cons c r =>
      simp only [plainB, Bool.and_eq_true] at h
      have hc := (List.all_eq_true.1 h.2) c (by simp)
      exact dvl_ge c r hc (by simpa using h.1)

theorem plain_pos {l : List UInt8} (h : plainB l = true) : 0 < dvl l := by
  cases l with
  | nil => simp [plainB] at h
  | cons c r =>
    simp only [plainB, Bool.and_eq_true] at h
    have hc := (List.all_eq_true.1 h.2) c (by simp)
    have := dvl_ge c r hc (by simpa using h.1)
    have : 0 < 10 ^ r.length := Nat.pow_pos (by decide)
    omega

theorem len_lt {p q : List UInt8} (hp : canon p) (hq : canon q) (h : p.length < q.length) : dvl p < dvl q := by
  have h1 := dvl_lt p (canon_dig hp)
  have h0 := canon_len hp
  have h2 := canon_ge hq (by omega)
  have h3 : 10 ^ p.length ≤ 10 ^ (q.length - 1) := Nat.pow_le_pow_right (by decide) (by omega)
  omega

theorem less_val (p q : List UInt8) (hl : p.length = q.length) (hp : p.all isDig = true) (hq : q.all isDig = true) :
    (Op.bytesLess p q = true ↔ dvl p < dvl q) ∧ (p = q ↔ dvl p = dvl q) := by
  induction p generalizing q with
  | nil =>
    cases q with
    | nil => simp [Op.bytesLess]
    | cons _ _ => simp at hl
  | cons c r ih =>
    cases q with
    | nil => simp at hl
    | cons d t =>
      have hl' : r.length = t.length := by simpa using hl
      simp only [List.all_cons, Bool.and_eq_true] at hp hq
      obtain ⟨i1, i2⟩ := ih t hl' hp.2 hq.2
      have hc := (isDig_iff c).1 hp.1
      have hd := (isDig_iff d).1 hq.1
      have b1 := dvl_lt r hp.2
      have b2 := dvl_lt t hq.2
      rw [dvl_cons, dvl_cons, ← hl']
      rw [← hl'] at b2
      have hcd : (c < d) ↔ c.toNat < d.toNat := UInt8.lt_iff_toNat_lt
      have hce : (c = d) ↔ c.toNat = d.toNat := ⟨fun h => by rw [h], fun h => UInt8.toNat_inj.1 h⟩
      have hbl : Op.bytesLess (c :: r) (d :: t) = (decide (c < d) || (c == d && Op.bytesLess r t)) := rfl
      rw [hbl]
      generalize hC : c.toNat - 48 = C at *
      generalize hD : d.toNat - 48 = D at *
      generalize 10 ^ r.length = T at *
      rcases (show C < D ∨ D < C ∨ C = D by omega) with h | h | h
      · have hlt : c < d := hcd.2 (by omega)
        have hne : ¬ c = d := fun e => by have := hce.1 e; omega
        have : T * C + T ≤ T * D := by rw [← Nat.mul_succ]; exact Nat.mul_le_mul_left _ h
        constructor
        · simp [hlt]; omega
        · simp [hne]; omega
      · have hlt : ¬ c < d := fun e => by have := hcd.1 e; omega
        have hne : ¬ c = d := fun e => by have := hce.1 e; omega
        have : T * D + T ≤ T * C := by rw [← Nat.mul_succ]; exact Nat.mul_le_mul_left _ h
        constructor
        · simp [hlt, hne]; omega
        · simp [hne]; omega
      · have hlt : ¬ c < d := fun e => by have := hcd.1 e; omega
        have heq : c = d := hce.2 (by omega)
        subst h
        subst heq
        constructor
        · simp [hlt, i1]
        · simp [i2]

theorem cmpS_val (p q : List UInt8) (hl : p.length = q.length) (hp : p.all isDig = true) (hq : q.all isDig = true) : cmpS p q = cmpI (dvl p) (dvl q) := by
  obtain ⟨h1, h2⟩ := less_val p q hl hp hq
  unfold cmpS
  rcases (show dvl p < dvl q ∨ dvl q < dvl p ∨ dvl p = dvl q by omega) with h | h | h
  · rw [if_pos (h1.2 h), cmp_less h]
  · have a : ¬ Op.bytesLess p q = true := fun e => by have := h1.1 e; omega
    have b : ¬ (p == q) = true := fun e => by have := h2.1 (by simpa using e); omega
    rw [if_neg a, if_neg b, cmp_more h]
  · have a : ¬ Op.bytesLess p q = true := fun e => by have := h1.1 e; omega
    have b : (p == q) = true := by simpa using h2.2 h
    rw [if_neg a, if_pos b, cmp_eq h]

theorem cmpT_val {p q : List UInt8} (hp : canon p) (hq : canon q) : cmpT p q = cmpI (dvl p) (dvl q) := by
  unfold cmpT
  by_cases h1 : p.length < q.length
  · rw [if_pos h1, cmp_less (len_lt hp hq h1)]
  · by_cases h2 : q.length < p.length
    · rw [if_neg h1, if_pos h2, cmp_more (len_lt hq hp h2)]
    · rw [if_neg h1, if_neg h2]
      exact cmpS_val p q (by omega) (canon_dig hp) (canon_dig hq)

theorem formed_canon {l : List UInt8} (h : formed l = true) : canon (body l) := by
  unfold formed at h
  simp only [Bool.or_eq_true] at h
  rcases h with h | h
  · have : l = [48] := by simpa using h
    subst this; exact Or.inl rfl
  · exact Or.inr h

theorem formed_neg {l : List UInt8} (h : formed l = true) (hn : neg l = true) : plainB (body l) = true := by
  unfold formed at h
  simp only [Bool.or_eq_true] at h
  rcases h with h | h
  · have : l = [48] := by simpa using h
    subst this; exact absurd hn (by decide)
  · exact h

/-- what a text that is a number is worth -/
def ival (l : List UInt8) : Int := if neg l then -(dvl (body l) : Int) else (dvl (body l) : Int)

theorem cmpI_swap (a b : Int) : cmpI b a = -cmpI a b := by
  unfold cmpI
  rcases (show a < b ∨ b < a ∨ a = b by omega) with h | h | h
  · rw [if_neg (show ¬ b < a by omega), if_pos h, if_pos h]; rfl
  · rw [if_pos h, if_neg (show ¬ a < b by omega), if_pos h]
  · subst h; simp

theorem trim_pos_of (xs : List Nat) (B : Nat) (h : 0 < val B xs) : 0 < (trimN xs).length := by
  rw [← val_trim] at h
  cases e : trimN xs with
  | nil => rw [e] at h; simp [val] at h
  | cons _ _ => simp

theorem neg_trim {l : List UInt8} (h : formed l = true) : (neg l && decide (0 < (trimN (digs (body l))).length)) = neg l := by
  cases hn : neg l
  · rfl
  · have := plain_pos (formed_neg h hn)
    have := trim_pos_of (digs (body l)) 10 this
    simp [this]

theorem order_val {a b : List UInt8} (ha : formed a = true) (hb : formed b = true) :
    ordI (neg a) (neg b) (cmpI (val 10 (trimN (digs (body a)))) (val 10 (trimN (digs (body b))))) = cmpN a b := by
  rw [val_trim, val_trim]
  show ordI (neg a) (neg b) (cmpI (dvl (body a)) (dvl (body b))) = cmpN a b
  unfold cmpN
  rw [ha, hb]
  cases neg a <;> cases neg b
  · simp only [ordI]; rw [cmpT_val (formed_canon ha) (formed_canon hb)]; rfl
  · rfl
  · rfl
  · simp only [ordI]; rw [cmpT_val (formed_canon hb) (formed_canon ha), cmpI_swap]; simp

theorem cmpN_val {a b : List UInt8} (ha : formed a = true) (hb : formed b = true) : cmpN a b = cmpI (ival a) (ival b) := by
  rw [← order_val ha hb, val_trim, val_trim]
  show ordI (neg a) (neg b) (cmpI (dvl (body a)) (dvl (body b))) = _
  unfold ival
  cases hna : neg a <;> cases hnb : neg b
  · rfl
  · have := plain_pos (formed_neg hb hnb)
    simp only [ordI]
    unfold cmpI
    rw [if_neg (by simp <;> omega), if_pos (by simp <;> omega)]
  · have := plain_pos (formed_neg ha hna)
    simp only [ordI]
    unfold cmpI
    rw [if_pos (by simp <;> omega)]
  · simp only [ordI]
    rw [← cmpI_swap]
    unfold cmpI
    simp

theorem body_le (s : ByteArray) : (body s.data.toList).length ≤ s.size := by
  unfold body; split <;> simp
theorem cmpS_bd (a b : List UInt8) : -1 ≤ cmpS a b ∧ cmpS a b ≤ 1 := by
  unfold cmpS; split <;> (try split) <;> omega
theorem cmpT_bd (a b : List UInt8) : -1 ≤ cmpT a b ∧ cmpT a b ≤ 1 := by
  have := cmpS_bd a b
  unfold cmpT; split <;> (try split) <;> omega
theorem cmpN_bd (a b : List UInt8) : -1 ≤ cmpN a b ∧ cmpN a b ≤ 1 := by
  have := cmpT_bd (body a) (body b)
  have := cmpT_bd (body b) (body a)
  unfold cmpN
  split <;> (try split) <;> (try split) <;> omega
theorem errN_bd (a b : List UInt8) : 0 ≤ errN a b ∧ errN a b ≤ 1 := by
  unfold errN; split <;> omega

end Go.Proofs.Ythcohnnikmpjkaa.Pl
