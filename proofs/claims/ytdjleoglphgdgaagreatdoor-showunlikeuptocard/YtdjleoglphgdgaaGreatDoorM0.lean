import Derived.WalkKit
import Derived.Lib.Strings
/- Texts as numbers: what the walks are held against. No Go here. -/
namespace Go.Proofs.YtdjleoglphgdgaaGreatDoor.Pl

def isDig (c : UInt8) : Bool := decide (48 ≤ c.toNat) && decide (c.toNat ≤ 57)
def neg (l : List UInt8) : Bool := match l with | [] => false | c :: _ => decide (c.toNat = 45)
def body (l : List UInt8) : List UInt8 := if neg l then l.tail else l
def plainB (l : List UInt8) : Bool := match l with | [] => false | c :: r => !(decide (c.toNat = 48)) && (c :: r).all isDig
def formed (l : List UInt8) : Bool := (l == [48]) || plainB (body l)

theorem neg_cons (c : UInt8) (r : List UInt8) : neg (c :: r) = decide (c.toNat = 45) := rfl

theorem toList_cons (s : ByteArray) (h : 0 < s.size) : s.data.toList = s[0] :: s.data.toList.tail := by
  have hl : 0 < s.data.toList.length := by simpa using h
  cases e : s.data.toList with
  | nil => rw [e] at hl; simp at hl
  | cons c r =>
    have : s[0] = s.data.toList[0]'hl := rfl
    simp only [this, e]; rfl

theorem take_snoc (s : ByteArray) (k : Nat) (h : k < s.size) : s.data.toList.take (k + 1) = s.data.toList.take k ++ [s[k]] := by
  rw [List.take_succ_eq_append_getElem (by simpa using h)]; rfl

theorem size_toList (s : ByteArray) : s.data.toList.length = s.size := by simp
theorem extract_tail (s : ByteArray) : (s.extract 1 s.size).data.toList = s.data.toList.tail := by
  rw [Lib.extract_data]
  simp only [List.drop_one]
  exact List.take_of_length_le (by simp)

theorem isEmpty_of (s : ByteArray) : s.toList.isEmpty = decide (s.size = 0) := by
  rw [Lib.toList_data]
  have := size_toList s
  cases e : s.data.toList with
  | nil => rw [e] at this; simp at this; simp [← this]
  | cons c r => rw [e] at this; simp at this; have h : ¬ s.size = 0 := by omega
                simp [h]

theorem size_tail (s r : ByteArray) (h : r.data.toList = s.data.toList.tail) : r.size = s.size - 1 := by
  have := size_toList r; rw [h] at this; simp at this; exact this.symm

theorem neg_of (s : ByteArray) (h : 0 < s.size) : neg s.data.toList = decide (s[0].toNat = 45) := by
  rw [toList_cons s h, neg_cons]

theorem formed_48 (l : List UInt8) (h : l = [48]) : formed l = true := by simp [formed, h]
theorem formed_not (l : List UInt8) (h : ¬ l = [48]) : formed l = plainB (body l) := by simp [formed, h]
theorem plainB_empty (r : ByteArray) (h : r.size = 0) : plainB r.data.toList = false := by
  have := size_toList r
  rw [h] at this
  rw [List.eq_nil_of_length_eq_zero this]; rfl
theorem plainB_zero (r : ByteArray) (h : 0 < r.size) (h0 : r[0].toNat = 48) : plainB r.data.toList = false := by
  rw [toList_cons r h]; simp [plainB, h0]
theorem plainB_some (r : ByteArray) (h : 0 < r.size) (h0 : ¬ r[0].toNat = 48) : plainB r.data.toList = r.data.toList.all isDig := by
  rw [toList_cons r h]; simp [plainB, h0]
theorem all_take_succ (r : ByteArray) (k : Nat) (h : k < r.size) : (r.data.toList.take (k + 1)).all isDig = ((r.data.toList.take k).all isDig && isDig r[k]) := by
  rw [take_snoc r k h, List.all_append]; simp
theorem all_not (r : ByteArray) (k : Nat) (h : k < r.size) (hd : isDig r[k] = false) : r.data.toList.all isDig = false := by
  rw [← Bool.not_eq_true]
  intro ha
  have hm : r[k] ∈ r.data.toList := by
    have : r[k] = r.data.toList[k]'(by simpa using h) := rfl
    rw [this]; exact List.getElem_mem _
  have := List.all_eq_true.1 ha _ hm
  rw [hd] at this; cases this
theorem isDig_lo (c : UInt8) (h : c.toNat < 48) : isDig c = false := by simp [isDig]; omega
theorem isDig_hi (c : UInt8) (h : 57 < c.toNat) : isDig c = false := by simp [isDig]; omega
theorem isDig_mid (c : UInt8) (h : 48 ≤ c.toNat) (h' : c.toNat ≤ 57) : isDig c = true := by simp [isDig]; omega
theorem isDig_iff (c : UInt8) : isDig c = true ↔ 48 ≤ c.toNat ∧ c.toNat ≤ 57 := by simp [isDig]

def cmpI (a b : Int) : Int := if a < b then -1 else if b < a then 1 else 0
def cmpS (a b : List UInt8) : Int := if Op.bytesLess a b then -1 else if a == b then 0 else 1
def cmpT (a b : List UInt8) : Int := if a.length < b.length then -1 else if b.length < a.length then 1 else cmpS a b

def orI (x y : Int) : Int := if x = 0 then y else x
theorem cmpT_eq (a b : ByteArray) : cmpT a.toList b.toList = orI (cmpI (a.size : Int) (b.size : Int)) (cmpS a.toList b.toList) := by
  unfold cmpT cmpI orI
  have ea : a.toList.length = a.size := by rw [Lib.toList_data]; simp
  have eb : b.toList.length = b.size := by rw [Lib.toList_data]; simp
  rw [ea, eb]
  by_cases h1 : a.size < b.size
  · have : (a.size : Int) < b.size := by omega
    simp [h1, this]
  · by_cases h2 : b.size < a.size
    · have h3 : ¬ (a.size : Int) < b.size := by omega
      have h4 : (b.size : Int) < a.size := by omega
      simp [h1, h2, h3, h4]
    · have h3 : ¬ (a.size : Int) < b.size := by omega
      have h4 : ¬ (b.size : Int) < a.size := by omega
      simp [h1, h2, h3, h4]

def errN (a b : List UInt8) : Int := if formed a && formed b then 0 else 1
def cmpN (a b : List UInt8) : Int := if formed a && formed b then (if neg a then (if neg b then cmpT (body b) (body a) else -1) else if neg b then 1 else cmpT (body a) (body b)) else 0

theorem body_drop (s : ByteArray) (f : Nat) (hf : f = if neg s.data.toList then 1 else 0) : body s.data.toList = s.data.toList.drop f := by
  unfold body
  cases h : neg s.data.toList <;> simp [h] at hf <;> subst hf <;> simp

theorem formed_short (s : ByteArray) (f : Nat) (hf : f = if neg s.data.toList then 1 else 0) (he : f = s.size) : formed s.data.toList = false := by
  have hb := body_drop s f hf
  have hn : body s.data.toList = [] := by rw [hb, he]; exact List.drop_eq_nil_of_le (by simp)
  rw [formed_not, hn]
  · rfl
  · intro e
    rw [e] at hn; exact absurd hn (by decide)

theorem all_drop (s : ByteArray) (f : Nat) : (s.data.toList.drop f).all isDig = true ↔ ∀ j (h : j < s.size), f ≤ j → isDig s[j] = true := by
  rw [List.all_eq_true]
  constructor
  · intro h j hj hfj
    apply h
    have e : s[j] = (s.data.toList.drop f)[j - f]'(by simp; omega) := by
      rw [List.getElem_drop]
      have : f + (j - f) = j := by omega
      simp only [this]; rfl
    rw [e]; exact List.getElem_mem _
  · intro h x hx
    obtain ⟨i, hi, rfl⟩ := List.mem_iff_getElem.1 hx
    rw [List.getElem_drop]
    have hi' : f + i < s.size := by simp at hi; omega
    exact h (f + i) hi' (by omega)

theorem formed_bad (s : ByteArray) (f : Nat) (hf : f = if neg s.data.toList then 1 else 0) (k : Nat) (hk : k < s.size) (hfk : f ≤ k) (hd : isDig s[k] = false) : formed s.data.toList = false := by
  have hall : (s.data.toList.drop f).all isDig = false := by
    rw [← Bool.not_eq_true, all_drop]
    intro h
    have := h k hk hfk
    rw [hd] at this; cases this
  rw [formed_not, body_drop s f hf]
  · cases e : s.data.toList.drop f with
    | nil => rfl
    | cons c r => rw [e] at hall; simp only [plainB, hall, Bool.and_false]
  · intro e
    have hm : s[k] ∈ s.data.toList := by
      have : s[k] = s.data.toList[k]'(by simpa using hk) := rfl
      rw [this]; exact List.getElem_mem _
    rw [e] at hm
    simp at hm
    rw [hm] at hd; exact absurd hd (by decide)

theorem formed_good (s : ByteArray) (f : Nat) (hf : f = if neg s.data.toList then 1 else 0) (hlt : f < s.size) (hall : ∀ j (h : j < s.size), f ≤ j → isDig s[j] = true) :
    formed s.data.toList = (!(((s[f].toNat : Nat) : Int) == 48) || s.toList == [48]) := by
  have ha := (all_drop s f).2 hall
  have hc : s.data.toList.drop f = s[f] :: s.data.toList.drop (f + 1) := by
    rw [List.drop_eq_getElem_cons (by simpa using hlt)]; rfl
  unfold formed
  rw [body_drop s f hf, Lib.toList_data]
  rw [hc] at ha ⊢
  simp only [plainB, ha, Bool.and_true]
  rw [Bool.or_comm]
  congr 1
  congr 1
  by_cases e : s[f].toNat = 48 <;> simp [e]
  omega

end Go.Proofs.YtdjleoglphgdgaaGreatDoor.Pl
namespace Go.RowKit
theorem Hid.mk {p : Prop} (h : p) : Hid p := h
end Go.RowKit
/- Rows of digits to a base: what they are worth, their order, their noughts at the top. No Go here. -/
namespace Go.Proofs.YtdjleoglphgdgaaGreatDoor.Pl
set_option linter.unusedVariables false
set_option linter.unusedSimpArgs false

def val (B : Nat) : List Nat → Nat
  | [] => 0
  | x :: r => x + B * val B r

def trimN : List Nat → List Nat
  | [] => []
  | x :: r => match trimN r with
    | [] => if x = 0 then [] else [x]
    | y :: t => x :: y :: t

def dig (B : Nat) (xs : List Nat) : Prop := ∀ x ∈ xs, x < B
theorem val_nil (B : Nat) : val B [] = 0 := rfl
theorem val_cons (B x : Nat) (r : List Nat) : val B (x :: r) = x + B * val B r := rfl

theorem val_trim (B : Nat) (xs : List Nat) : val B (trimN xs) = val B xs := by
  induction xs with
  | nil => rfl
  | cons x r ih =>
    simp only [trimN]
    cases e : trimN r with
    | nil =>
      rw [e] at ih
      by_cases h : x = 0
      · simp [h, val_cons, ← ih, val_nil]
      · simp [h, val_cons, ← ih, val_nil]
    | cons y t => rw [e] at ih; simp only [val_cons] at ih ⊢; rw [ih]

theorem dig_cons {B x : Nat} {r : List Nat} : dig B (x :: r) ↔ x < B ∧ dig B r := by
  unfold dig; simp
theorem val_lt {B : Nat} {xs : List Nat} (h : dig B xs) : val B xs < B ^ xs.length := by
  induction xs with
  | nil => simp [val]
  | cons x r ih =>
    have hx := (dig_cons.1 h).1
    have hr := ih (dig_cons.1 h).2
    simp only [val_cons, List.length_cons, Nat.pow_succ]
    have : B * val B r + B ≤ B * B ^ r.length := by
      rw [← Nat.mul_succ]; exact Nat.mul_le_mul_left _ hr
    rw [Nat.mul_comm (B ^ r.length) B]
    omega

theorem val_append (B : Nat) (l r : List Nat) : val B (l ++ r) = val B l + B ^ l.length * val B r := by
  induction l with
  | nil => simp [val]
  | cons x t ih =>
    simp only [List.cons_append, val_cons, ih, List.length_cons, Nat.pow_succ, Nat.mul_add, Nat.add_assoc]
    rw [Nat.mul_comm (B ^ t.length) B, Nat.mul_assoc]

theorem above {xs ys : List Nat} {n : Nat} (h : xs.length = n) (hl : xs.length = ys.length) : ∀ j, n ≤ j → xs.getD j 0 = ys.getD j 0 := by
  intro j hj
  simp [List.getElem?_eq_none (show xs.length ≤ j by omega), List.getElem?_eq_none (show ys.length ≤ j by omega)]
theorem cmp_less {a b : Nat} (h : a < b) : cmpI (a : Int) (b : Int) = -1 := by simp [cmpI, h]
theorem cmp_more {a b : Nat} (h : b < a) : cmpI (a : Int) (b : Int) = 1 := by
  have : ¬ a < b := by omega
  simp [cmpI, h, this]
theorem cmp_eq {a b : Nat} (h : a = b) : cmpI (a : Int) (b : Int) = 0 := by simp [cmpI, h]
def ordI (a b : Bool) (c : Int) : Int := match a, b with
  | false, false => c
  | false, true => 1
  | true, false => -1
  | true, true => -c
/-- a text's digits, the lowest first -/
def digs (l : List UInt8) : List Nat := (l.map fun c => c.toNat - 48).reverse

end Go.Proofs.YtdjleoglphgdgaaGreatDoor.Pl
/- The order of texts is the order of what they are worth. No Go here. -/
namespace Go.Proofs.YtdjleoglphgdgaaGreatDoor.Pl
set_option linter.unusedVariables false
set_option linter.unusedSimpArgs false

/-- what a row of digits' letters is worth -/
def dvl (l : List UInt8) : Nat := val 10 (digs l)

theorem digs_length (l : List UInt8) : (digs l).length = l.length := by simp [digs]
theorem dvl_cons (c : UInt8) (r : List UInt8) : dvl (c :: r) = dvl r + 10 ^ r.length * (c.toNat - 48) := by
  unfold dvl
  have : digs (c :: r) = digs r ++ [c.toNat - 48] := by simp [digs]
  rw [this, val_append, digs_length]
  simp [val]

theorem digs_dig (l : List UInt8) (h : l.all isDig = true) : dig 10 (digs l) := by
  intro x hx
  simp only [digs, List.mem_reverse, List.mem_map] at hx
  obtain ⟨c, hc, rfl⟩ := hx
  have := (isDig_iff c).1 (List.all_eq_true.1 h c hc)
  omega

theorem dvl_lt (l : List UInt8) (h : l.all isDig = true) : dvl l < 10 ^ l.length := by
  have := val_lt (digs_dig l h)
  rwa [digs_length] at this

theorem dvl_ge (c : UInt8) (r : List UInt8) (h : isDig c = true) (h0 : ¬ c.toNat = 48) : 10 ^ r.length ≤ dvl (c :: r) := by
  rw [dvl_cons]
  have := (isDig_iff c).1 h
  have h1 : 10 ^ r.length * 1 ≤ 10 ^ r.length * (c.toNat - 48) := Nat.mul_le_mul_left _ (by omega)
  omega

/-- a text that is a number's: [48], or one without a nought ahead -/
def canon (l : List UInt8) : Prop := l = [48] ∨ plainB l = true

theorem canon_dig {l : List UInt8} (h : canon l) : l.all isDig = true := by
  rcases h with rfl | h
  · decide
  · cases l with
    | nil => simp [plainB] at h
    | cons c r => simp only [plainB, Bool.and_eq_true] at h; exact h.2

theorem canon_len {l : List UInt8} (h : canon l) : 0 < l.length := by
  rcases h with rfl | h
  · decide
  · cases l with
    | nil => simp [plainB] at h
    | cons c r => simp

theorem canon_ge {l : List UInt8} (h : canon l) (hl : 1 < l.length) : 10 ^ (l.length - 1) ≤ dvl l := by
  rcases h with rfl | h
  · simp at hl
  · cases l with
    | nil => simp [plainB] at h
    | cons c r =>
      simp only [plainB, Bool.and_eq_true] at h
      have hc := (List.all_eq_true.1 h.2) c (by simp)
      exact dvl_ge c r hc (by simpa using h.1)

theorem plain_pos {l : List UInt8} (h : plainB l = true) : 0 < dvl l := by
  cases l with
  | nil => simp [plainB] at h
  | cons c r =>
    simp only [plainB, Bool.and_eq_true] at h
    have hc := (List.all_eq_true.1 h.2) c (by simp)
    have := dvl_ge c r hc (by simpa using h.1)
    have : 0 < 10 ^ r.length := Nat.pow_pos (by decide)
    omega

theorem len_lt {p q : List UInt8} (hp : canon p) (hq : canon q) (h : p.length < q.length) : dvl p < dvl q := by
  have h1 := dvl_lt p (canon_dig hp)
  have h0 := canon_len hp
  have h2 := canon_ge hq (by omega)
  have h3 : 10 ^ p.length ≤ 10 ^ (q.length - 1) := Nat.pow_le_pow_right (by decide) (by omega)
  omega

theorem less_val (p q : List UInt8) (hl : p.length = q.length) (hp : p.all isDig = true) (hq : q.all isDig = true) :
    (Op.bytesLess p q = true ↔ dvl p < dvl q) ∧ (p = q ↔ dvl p = dvl q) := by
  induction p generalizing q with
  | nil =>
    cases q with
    | nil => simp [Op.bytesLess]
    | cons _ _ => simp at hl
  | cons c r ih =>
    cases q with
    | nil => simp at hl
    | cons d t =>
      have hl' : r.length = t.length := by simpa using hl
      simp only [List.all_cons, Bool.and_eq_true] at hp hq
      obtain ⟨i1, i2⟩ := ih t hl' hp.2 hq.2
      have hc := (isDig_iff c).1 hp.1
      have hd := (isDig_iff d).1 hq.1
      have b1 := dvl_lt r hp.2
      have b2 := dvl_lt t hq.2
      rw [dvl_cons, dvl_cons, ← hl']
      rw [← hl'] at b2
      have hcd : (c < d) ↔ c.toNat < d.toNat := UInt8.lt_iff_toNat_lt
      have hce : (c = d) ↔ c.toNat = d.toNat := ⟨fun h => by rw [h], fun h => UInt8.toNat_inj.1 h⟩
      have hbl : Op.bytesLess (c :: r) (d :: t) = (decide (c < d) || (c == d && Op.bytesLess r t)) := rfl
      rw [hbl]
      generalize hC : c.toNat - 48 = C at *
      generalize hD : d.toNat - 48 = D at *
      generalize 10 ^ r.length = T at *
      rcases (show C < D ∨ D < C ∨ C = D by omega) with h | h | h
      · have hlt : c < d := hcd.2 (by omega)
        have hne : ¬ c = d := fun e => by have := hce.1 e; omega
        have : T * C + T ≤ T * D := by rw [← Nat.mul_succ]; exact Nat.mul_le_mul_left _ h
        constructor
        · simp [hlt]; omega
        · simp [hne]; omega
      · have hlt : ¬ c < d := fun e => by have := hcd.1 e; omega
        have hne : ¬ c = d := fun e => by have := hce.1 e; omega
        have : T * D + T ≤ T * C := by rw [← Nat.mul_succ]; exact Nat.mul_le_mul_left _ h
        constructor
        · simp [hlt, hne]; omega
        · simp [hne]; omega
      · have hlt : ¬ c < d := fun e => by have := hcd.1 e; omega
        have heq : c = d := hce.2 (by omega)
        subst h
        subst heq
        constructor
        · simp [hlt, i1]
        · simp [i2]

theorem cmpS_val (p q : List UInt8) (hl : p.length = q.length) (hp : p.all isDig = true) (hq : q.all isDig = true) : cmpS p q = cmpI (dvl p) (dvl q) := by
  obtain ⟨h1, h2⟩ := less_val p q hl hp hq
  unfold cmpS
  rcases (show dvl p < dvl q ∨ dvl q < dvl p ∨ dvl p = dvl q by omega) with h | h | h
  · rw [if_pos (h1.2 h), cmp_less h]
  · have a : ¬ Op.bytesLess p q = true := fun e => by have := h1.1 e; omega
    have b : ¬ (p == q) = true := fun e => by have := h2.1 (by simpa using e); omega
    rw [if_neg a, if_neg b, cmp_more h]
  · have a : ¬ Op.bytesLess p q = true := fun e => by have := h1.1 e; omega
    have b : (p == q) = true := by simpa using h2.2 h
    rw [if_neg a, if_pos b, cmp_eq h]

theorem cmpT_val {p q : List UInt8} (hp : canon p) (hq : canon q) : cmpT p q = cmpI (dvl p) (dvl q) := by
  unfold cmpT
  by_cases h1 : p.length < q.length
  · rw [if_pos h1, cmp_less (len_lt hp hq h1)]
  · by_cases h2 : q.length < p.length
    · rw [if_neg h1, if_pos h2, cmp_more (len_lt hq hp h2)]
    · rw [if_neg h1, if_neg h2]
      exact cmpS_val p q (by omega) (canon_dig hp) (canon_dig hq)

theorem formed_canon {l : List UInt8} (h : formed l = true) : canon (body l) := by
  unfold formed at h
  simp only [Bool.or_eq_true] at h
  rcases h with h | h
  · have : l = [48] := by simpa using h
    subst this; exact Or.inl rfl
  · exact Or.inr h

theorem formed_neg {l : List UInt8} (h : formed l = true) (hn : neg l = true) : plainB (body l) = true := by
  unfold formed at h
  simp only [Bool.or_eq_true] at h
  rcases h with h | h
  · have : l = [48] := by simpa using h
    subst this; exact absurd hn (by decide)
  · exact h

/-- what a text that is a number is worth -/
def ival (l : List UInt8) : Int := if neg l then -(dvl (body l) : Int) else (dvl (body l) : Int)

theorem cmpI_swap (a b : Int) : cmpI b a = -cmpI a b := by
  unfold cmpI
  rcases (show a < b ∨ b < a ∨ a = b by omega) with h | h | h
  · rw [if_neg (show ¬ b < a by omega), if_pos h, if_pos h]; rfl
  · rw [if_pos h, if_neg (show ¬ a < b by omega), if_pos h]
  · subst h; simp

theorem order_val {a b : List UInt8} (ha : formed a = true) (hb : formed b = true) :
    ordI (neg a) (neg b) (cmpI (val 10 (trimN (digs (body a)))) (val 10 (trimN (digs (body b))))) = cmpN a b := by
  rw [val_trim, val_trim]
  show ordI (neg a) (neg b) (cmpI (dvl (body a)) (dvl (body b))) = cmpN a b
  unfold cmpN
  rw [ha, hb]
  cases neg a <;> cases neg b
  · simp only [ordI]; rw [cmpT_val (formed_canon ha) (formed_canon hb)]; rfl
  · rfl
  · rfl
  · simp only [ordI]; rw [cmpT_val (formed_canon hb) (formed_canon ha), cmpI_swap]; simp

theorem cmpN_val {a b : List UInt8} (ha : formed a = true) (hb : formed b = true) : cmpN a b = cmpI (ival a) (ival b) := by
  rw [← order_val ha hb, val_trim, val_trim]
  show ordI (neg a) (neg b) (cmpI (dvl (body a)) (dvl (body b))) = _
  unfold ival
  cases hna : neg a <;> cases hnb : neg b
  · rfl
  · have := plain_pos (formed_neg hb hnb)
    simp only [ordI]
    unfold cmpI
    rw [if_neg (by simp <;> omega), if_pos (by simp <;> omega)]
  · have := plain_pos (formed_neg ha hna)
    simp only [ordI]
    unfold cmpI
    rw [if_pos (by simp <;> omega)]
  · simp only [ordI]
    rw [← cmpI_swap]
    unfold cmpI
    simp

end Go.Proofs.YtdjleoglphgdgaaGreatDoor.Pl
