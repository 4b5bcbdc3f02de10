import Derived.Test.YtaflpeajapdkdaaM10
namespace Go.Proofs.Ytaflpeajapdkdaa.Pl
set_option linter.unusedVariables false
set_option linter.unusedSimpArgs false

def val (B : Nat) : List Nat → Nat
  | [] => 0
  | x :: r => x + B * val B r

def trimN : List Nat → List Nat
  | [] => []
  | x :: r => match trimN r with
    | [] => if x = 0 then [] else [x]
    | y :: t => x :: y :: t

def dig (B : Nat) (xs : List Nat) : Prop := ∀ x ∈ xs, x < B
def Top (xs : List Nat) : Prop := trimN xs = xs

theorem val_nil (B : Nat) : val B [] = 0 := rfl
theorem val_cons (B x : Nat) (r : List Nat) : val B (x :: r) = x + B * val B r := rfl

theorem val_trim (B : Nat) (xs : List Nat) : val B (trimN xs) = val B xs := by
  induction xs with
  | nil => rfl
  | cons x r ih =>
    simp only [trimN]
    cases e : trimN r with
    | nil =>
      rw [e] at ih
      by_cases h : x = 0
      · simp [h, val_cons, ← ih, val_nil]
      · simp [h, val_cons, ← ih, val_nil]
    | cons y t => rw [e] at ih; simp only [val_cons] at ih ⊢; rw [ih]

theorem trim_trim (xs : List Nat) : trimN (trimN xs) = trimN xs := by
  induction xs with
  | nil => rfl
  | cons x r ih =>
    simp only [trimN]
    cases e : trimN r with
    | nil => by_cases h : x = 0 <;> simp [h, trimN]
    | cons y t =>
      rw [e] at ih
      show trimN (x :: y :: t) = x :: y :: t
      conv => lhs; unfold trimN
      rw [ih]

theorem top_trim (xs : List Nat) : Top (trimN xs) := trim_trim xs

theorem trim_len (xs : List Nat) : (trimN xs).length ≤ xs.length := by
  induction xs with
  | nil => exact Nat.le_refl _
  | cons x r ih =>
    simp only [trimN]
    cases e : trimN r with
    | nil => by_cases h : x = 0 <;> simp [h]
    | cons y t => rw [e] at ih; simp at ih ⊢; omega

theorem trim_mem (xs : List Nat) (y : Nat) (h : y ∈ trimN xs) : y ∈ xs := by
  induction xs with
  | nil => exact h
  | cons x r ih =>
    simp only [trimN] at h
    cases e : trimN r with
    | nil =>
      rw [e] at h
      by_cases hx : x = 0
      · simp [hx] at h
      · simp [hx] at h; simp [h]
    | cons z t =>
      rw [e] at h ih
      rcases List.mem_cons.1 h with h | h
      · simp [h]
      · exact List.mem_cons_of_mem _ (ih h)

theorem dig_trim {B : Nat} {xs : List Nat} (h : dig B xs) : dig B (trimN xs) := fun y hy => h y (trim_mem xs y hy)
theorem dig_nil (B : Nat) : dig B [] := fun _ h => by cases h
theorem dig_cons {B x : Nat} {r : List Nat} : dig B (x :: r) ↔ x < B ∧ dig B r := by
  unfold dig; simp
theorem dig_append {B : Nat} {l r : List Nat} : dig B (l ++ r) ↔ dig B l ∧ dig B r := by
  unfold dig
  constructor
  · intro h; exact ⟨fun x hx => h x (by simp [hx]), fun x hx => h x (by simp [hx])⟩
  · rintro ⟨h, k⟩ x hx
    rcases List.mem_append.1 hx with hx | hx
    · exact h x hx
    · exact k x hx
theorem dig_take {B : Nat} {l : List Nat} (n : Nat) (h : dig B l) : dig B (l.take n) := fun x hx => h x (List.mem_of_mem_take hx)
theorem dig_drop {B : Nat} {l : List Nat} (n : Nat) (h : dig B l) : dig B (l.drop n) := fun x hx => h x (List.mem_of_mem_drop hx)
theorem dig_getD {B : Nat} {xs : List Nat} (hB : 0 < B) (h : dig B xs) (i : Nat) : xs.getD i 0 < B := by
  by_cases hi : i < xs.length
  · rw [List.getD_eq_getElem?_getD, List.getElem?_eq_getElem hi]
    exact h _ (List.getElem_mem hi)
  · rw [List.getD_eq_getElem?_getD, List.getElem?_eq_none (by omega)]; exact hB

/-- what a loop from the top down leaves is the trimmed row -/
theorem trim_take (xs : List Nat) (n : Nat) (hn : n ≤ xs.length) (hz : ∀ i, n ≤ i → xs.getD i 0 = 0) (ht : n = 0 ∨ xs.getD (n - 1) 0 ≠ 0) : trimN xs = xs.take n := by
  induction xs generalizing n with
  | nil => simp [trimN]
  | cons x r ih =>
    cases n with
    | zero =>
      have h0 : trimN r = [] := by
        have := ih 0 (Nat.zero_le _) (fun i _ => by have := hz (i + 1) (by omega); simpa using this) (Or.inl rfl)
        simpa using this
      have hx : x = 0 := by have := hz 0 (Nat.le_refl _); simpa using this
      simp [trimN, h0, hx]
    | succ m =>
      have hr := ih m (by simp at hn; omega) (fun i hi => by have := hz (i + 1) (by omega); simpa using this) (by
        cases m with
        | zero => exact Or.inl rfl
        | succ q => right; rcases ht with ht | ht
                    · omega
                    · simpa using ht)
      simp only [trimN, hr, List.take_succ_cons]
      cases m with
      | zero =>
        have hx : x ≠ 0 := by rcases ht with ht | ht
                              · omega
                              · simpa using ht
        simp [hx]
      | succ q =>
        cases r with
        | nil => simp at hn
        | cons z t => simp

theorem top_last {xs : List Nat} (h : Top xs) (hn : 0 < xs.length) : xs.getD (xs.length - 1) 0 ≠ 0 := by
  induction xs with
  | nil => simp at hn
  | cons x r ih =>
    unfold Top at h
    simp only [trimN] at h
    cases e : trimN r with
    | nil =>
      rw [e] at h
      by_cases hx : x = 0
      · simp [hx] at h
      · simp [hx] at h; subst h; simpa using hx
    | cons y t =>
      rw [e] at h
      have hr : r = y :: t := by simpa using h.symm
      have := ih (by unfold Top; rw [e, hr]) (by rw [hr]; simp)
      rw [hr] at this ⊢
      simpa using this

theorem val_lt {B : Nat} {xs : List Nat} (h : dig B xs) : val B xs < B ^ xs.length := by
  induction xs with
  | nil => simp [val]
  | cons x r ih =>
    have hx := (dig_cons.1 h).1
    have hr := ih (dig_cons.1 h).2
    simp only [val_cons, List.length_cons, Nat.pow_succ]
    have : B * val B r + B ≤ B * B ^ r.length := by
      rw [← Nat.mul_succ]; exact Nat.mul_le_mul_left _ hr
    rw [Nat.mul_comm (B ^ r.length) B]
    omega

theorem val_append (B : Nat) (l r : List Nat) : val B (l ++ r) = val B l + B ^ l.length * val B r := by
  induction l with
  | nil => simp [val]
  | cons x t ih =>
    simp only [List.cons_append, val_cons, ih, List.length_cons, Nat.pow_succ, Nat.mul_add, Nat.add_assoc]
    rw [Nat.mul_comm (B ^ t.length) B, Nat.mul_assoc]

theorem val_ge_top {B : Nat} {xs : List Nat} (hn : 0 < xs.length) (ht : xs.getD (xs.length - 1) 0 ≠ 0) : B ^ (xs.length - 1) ≤ val B xs := by
  induction xs with
  | nil => simp at hn
  | cons x r ih =>
    cases r with
    | nil => simp at ht; simp [val]; omega
    | cons y t =>
      have h1 := ih (by simp) (by simpa using ht)
      simp only [List.length_cons, Nat.add_sub_cancel] at h1 ⊢
      rw [val_cons, Nat.pow_succ, Nat.mul_comm]
      have := Nat.mul_le_mul_left B h1
      omega

theorem val_lt_of_len {B : Nat} (hB : 0 < B) {a b : List Nat} (ha : dig B a) (tb : Top b) (h : a.length < b.length) : val B a < val B b := by
  have h1 := val_lt ha
  have h2 := val_ge_top (B := B) (xs := b) (by omega) (top_last tb (by omega))
  have h3 : B ^ a.length ≤ B ^ (b.length - 1) := Nat.pow_le_pow_right hB (by omega)
  omega

/-- the row from place i on decides, where all above agrees -/
theorem val_lt_at {B : Nat} {a b : List Nat} (i : Nat) (hl : a.length = b.length) (hi : i < a.length) (ha : dig B a) (hlt : a.getD i 0 < b.getD i 0) (hup : ∀ j, i < j → a.getD j 0 = b.getD j 0) : val B a < val B b := by
  induction a generalizing b i with
  | nil => simp at hi
  | cons x r ih =>
    cases b with
    | nil => simp at hl
    | cons y t =>
      simp only [val_cons]
      cases i with
      | zero =>
        have he : r = t := by
          apply List.ext_getElem (by simpa using hl)
          intro j h1 h2
          have := hup (j + 1) (by omega)
          simpa [List.getElem?_eq_getElem h1, List.getElem?_eq_getElem h2] using this
        subst he
        simp at hlt
        omega
      | succ k =>
        have hr := ih k (by simpa using hl) (by simpa using hi) (dig_cons.1 ha).2 (by simpa using hlt) (fun j hj => by have := hup (j + 1) (by omega); simpa using this)
        have hx := (dig_cons.1 ha).1
        have : B * val B r + B ≤ B * val B t := by rw [← Nat.mul_succ]; exact Nat.mul_le_mul_left _ hr
        omega

theorem eq_of_getD {a b : List Nat} (hl : a.length = b.length) (h : ∀ j, a.getD j 0 = b.getD j 0) : a = b := by
  apply List.ext_getElem hl
  intro j h1 h2
  have := h j
  simpa [List.getElem?_eq_getElem h1, List.getElem?_eq_getElem h2] using this

theorem above {xs ys : List Nat} {n : Nat} (h : xs.length = n) (hl : xs.length = ys.length) : ∀ j, n ≤ j → xs.getD j 0 = ys.getD j 0 := by
  intro j hj
  simp [List.getElem?_eq_none (show xs.length ≤ j by omega), List.getElem?_eq_none (show ys.length ≤ j by omega)]
theorem cmp_less {a b : Nat} (h : a < b) : cmpI (a : Int) (b : Int) = -1 := by simp [cmpI, h]
theorem cmp_more {a b : Nat} (h : b < a) : cmpI (a : Int) (b : Int) = 1 := by
  have : ¬ a < b := by omega
  simp [cmpI, h, this]
theorem cmp_eq {a b : Nat} (h : a = b) : cmpI (a : Int) (b : Int) = 0 := by simp [cmpI, h]
theorem cmp_same {B : Nat} {xs ys : List Nat} (hl : xs.length = ys.length) (h : ∀ j, 0 ≤ j → xs.getD j 0 = ys.getD j 0) : cmpI (val B xs) (val B ys) = 0 := by
  rw [eq_of_getD hl (fun j => h j (Nat.zero_le _))]; exact cmp_eq rfl

theorem getD_past {xs : List Nat} {j : Nat} (h : xs.length ≤ j) : xs.getD j 0 = 0 := by
  simp [List.getElem?_eq_none h]

def ordI (a b : Bool) (c : Int) : Int := match a, b with
  | false, false => c
  | false, true => 1
  | true, false => -1
  | true, true => -c
theorem cmpI_bd (a b : Int) : -1 ≤ cmpI a b ∧ cmpI a b ≤ 1 := by
  unfold cmpI; split <;> (try split) <;> omega

/-- a text's digits, the lowest first -/
def digs (l : List UInt8) : List Nat := (l.map fun c => c.toNat - 48).reverse

theorem digs_end (s : ByteArray) : digs (s.data.toList.drop s.size) = [] := by
  rw [List.drop_eq_nil_of_le (by simp)]; rfl
theorem digs_step (s : ByteArray) (m : Nat) (h : m < s.size) : digs (s.data.toList.drop m) = digs (s.data.toList.drop (m + 1)) ++ [s[m].toNat - 48] := by
  rw [List.drop_eq_getElem_cons (show m < s.data.toList.length by simpa using h)]
  simp only [digs, List.map_cons, List.reverse_cons]
  rfl
theorem digs_len (s : ByteArray) (m : Nat) : (digs (s.data.toList.drop m)).length = s.size - m := by simp [digs]

end Go.Proofs.Ytaflpeajapdkdaa.Pl
namespace Go.Proofs.Ytaflpeajapdkdaa.Pl
set_option linter.unusedVariables false
set_option linter.unusedSimpArgs false

/-- what a row of digits' letters is worth -/
def dvl (l : List UInt8) : Nat := val 10 (digs l)

theorem digs_length (l : List UInt8) : (digs l).length = l.length := by simp [digs]
theorem dvl_nil : dvl [] = 0 := rfl
theorem dvl_cons (c : UInt8) (r : List UInt8) : dvl (c :: r) = dvl r + 10 ^ r.length * (c.toNat - 48) := by
  unfold dvl
  have : digs (c :: r) = digs r ++ [c.toNat - 48] := by simp [digs]
  rw [this, val_append, digs_length]
  simp [val]

theorem digs_dig (l : List UInt8) (h : l.all isDig = true) : dig 10 (digs l) := by
  intro x hx
  simp only [digs, List.mem_reverse, List.mem_map] at hx
  obtain ⟨c, hc, rfl⟩ := hx
  have := (isDig_iff c).1 (List.all_eq_true.1 h c hc)
  omega

theorem dvl_lt (l : List UInt8) (h : l.all isDig = true) : dvl l < 10 ^ l.length := by
  have := val_lt (digs_dig l h)
  rwa [digs_length] at this

theorem dvl_ge (c : UInt8) (r : List UInt8) (h : isDig c = true) (h0 : ¬ c.toNat = 48) : 10 ^ r.length ≤ dvl (c :: r) := by
  rw [dvl_cons]
  have := (isDig_iff c).1 h
  have h1 : 10 ^ r.length * 1 ≤ 10 ^ r.length * (c.toNat - 48) := Nat.mul_le_mul_left _ (by omega)
  omega

/-- a text that is a number's: [48], or one without a nought ahead -/
def canon (l : List UInt8) : Prop := l = [48] ∨ plainB l = true

theorem canon_dig {l : List UInt8} (h : canon l) : l.all isDig = true := by
  rcases h with rfl | h
  · decide
  · cases l with
    | nil => simp [plainB] at h
    | cons c r => simp only [plainB, Bool.and_eq_true] at h; exact h.2

theorem canon_len {l : List UInt8} (h : canon l) : 0 < l.length := by
  rcases h with rfl | h
  · decide
  · cases l with
    | nil => simp [plainB] at h
    | cons c r => simp

theorem canon_ge {l : List UInt8} (h : canon l) (hl : 1 < l.length) : 10 ^ (l.length - 1) ≤ dvl l := by
  rcases h with rfl | h
  · simp at hl
  · cases l with
    | nil => simp [plainB] at h
    | cons c r =>
      simp only [plainB, Bool.and_eq_true] at h
      have hc := (List.all_eq_true.1 h.2) c (by simp)
      exact dvl_ge c r hc (by simpa using h.1)

theorem plain_pos {l : List UInt8} (h : plainB l = true) : 0 < dvl l := by
  cases l with
  | nil => simp [plainB] at h
  | cons c r =>
    simp only [plainB, Bool.and_eq_true] at h
    have hc := (List.all_eq_true.1 h.2) c (by simp)
    have := dvl_ge c r hc (by simpa using h.1)
    have : 0 < 10 ^ r.length := Nat.pow_pos (by decide)
    omega

theorem len_lt {p q : List UInt8} (hp : canon p) (hq : canon q) (h : p.length < q.length) : dvl p < dvl q := by
  have h1 := dvl_lt p (canon_dig hp)
  have h0 := canon_len hp
  have h2 := canon_ge hq (by omega)
  have h3 : 10 ^ p.length ≤ 10 ^ (q.length - 1) := Nat.pow_le_pow_right (by decide) (by omega)
  omega

theorem less_val (p q : List UInt8) (hl : p.length = q.length) (hp : p.all isDig = true) (hq : q.all isDig = true) :
    (Op.bytesLess p q = true ↔ dvl p < dvl q) ∧ (p = q ↔ dvl p = dvl q) := by
  induction p generalizing q with
  | nil =>
    cases q with
    | nil => simp [Op.bytesLess]
    | cons _ _ => simp at hl
  | cons c r ih =>
    cases q with
    | nil => simp at hl
    | cons d t =>
      have hl' : r.length = t.length := by simpa using hl
      simp only [List.all_cons, Bool.and_eq_true] at hp hq
      obtain ⟨i1, i2⟩ := ih t hl' hp.2 hq.2
      have hc := (isDig_iff c).1 hp.1
      have hd := (isDig_iff d).1 hq.1
      have b1 := dvl_lt r hp.2
      have b2 := dvl_lt t hq.2
      rw [dvl_cons, dvl_cons, ← hl']
      rw [← hl'] at b2
      have hcd : (c < d) ↔ c.toNat < d.toNat := UInt8.lt_iff_toNat_lt
      have hce : (c = d) ↔ c.toNat = d.toNat := ⟨fun h => by rw [h], fun h => UInt8.toNat_inj.1 h⟩
      have hbl : Op.bytesLess (c :: r) (d :: t) = (decide (c < d) || (c == d && Op.bytesLess r t)) := rfl
      rw [hbl]
      generalize hC : c.toNat - 48 = C at *
      generalize hD : d.toNat - 48 = D at *
      generalize 10 ^ r.length = T at *
      rcases (show C < D ∨ D < C ∨ C = D by omega) with h | h | h
      · have hlt : c < d := hcd.2 (by omega)
        have hne : ¬ c = d := fun e => by have := hce.1 e; omega
        have : T * C + T ≤ T * D := by rw [← Nat.mul_succ]; exact Nat.mul_le_mul_left _ h
        constructor
        · simp [hlt]; omega
        · simp [hne]; omega
      · have hlt : ¬ c < d := fun e => by have := hcd.1 e; omega
        have hne : ¬ c = d := fun e => by have := hce.1 e; omega
        have : T * D + T ≤ T * C := by rw [← Nat.mul_succ]; exact Nat.mul_le_mul_left _ h
        constructor
        · simp [hlt, hne]; omega
        · simp [hne]; omega
      · have hlt : ¬ c < d := fun e => by have := hcd.1 e; omega
        have heq : c = d := hce.2 (by omega)
        subst h
        subst heq
        constructor
        · simp [hlt, i1]
        · simp [i2]

theorem cmpS_val (p q : List UInt8) (hl : p.length = q.length) (hp : p.all isDig = true) (hq : q.all isDig = true) : cmpS p q = cmpI (dvl p) (dvl q) := by
  obtain ⟨h1, h2⟩ := less_val p q hl hp hq
  unfold cmpS
  rcases (show dvl p < dvl q ∨ dvl q < dvl p ∨ dvl p = dvl q by omega) with h | h | h
  · rw [if_pos (h1.2 h), cmp_less h]
  · have a : ¬ Op.bytesLess p q = true := fun e => by have := h1.1 e; omega
    have b : ¬ (p == q) = true := fun e => by have := h2.1 (by simpa using e); omega
    rw [if_neg a, if_neg b, cmp_more h]
  · have a : ¬ Op.bytesLess p q = true := fun e => by have := h1.1 e; omega
    have b : (p == q) = true := by simpa using h2.2 h
    rw [if_neg a, if_pos b, cmp_eq h]

theorem cmpT_val {p q : List UInt8} (hp : canon p) (hq : canon q) : cmpT p q = cmpI (dvl p) (dvl q) := by
  unfold cmpT
  by_cases h1 : p.length < q.length
  · rw [if_pos h1, cmp_less (len_lt hp hq h1)]
  · by_cases h2 : q.length < p.length
    · rw [if_neg h1, if_pos h2, cmp_more (len_lt hq hp h2)]
    · rw [if_neg h1, if_neg h2]
      exact cmpS_val p q (by omega) (canon_dig hp) (canon_dig hq)

theorem formed_canon {l : List UInt8} (h : formed l = true) : canon (body l) := by
  unfold formed at h
  simp only [Bool.or_eq_true] at h
  rcases h with h | h
  · have : l = [48] := by simpa using h
    subst this; exact Or.inl rfl
  · exact Or.inr h

theorem formed_neg {l : List UInt8} (h : formed l = true) (hn : neg l = true) : plainB (body l) = true := by
  unfold formed at h
  simp only [Bool.or_eq_true] at h
  rcases h with h | h
  · have : l = [48] := by simpa using h
    subst this; exact absurd hn (by decide)
  · exact h

/-- what a text that is a number is worth -/
def ival (l : List UInt8) : Int := if neg l then -(dvl (body l) : Int) else (dvl (body l) : Int)

theorem cmpI_swap (a b : Int) : cmpI b a = -cmpI a b := by
  unfold cmpI
  rcases (show a < b ∨ b < a ∨ a = b by omega) with h | h | h
  · rw [if_neg (show ¬ b < a by omega), if_pos h, if_pos h]; rfl
  · rw [if_pos h, if_neg (show ¬ a < b by omega), if_pos h]
  · subst h; simp

theorem trim_pos_of (xs : List Nat) (B : Nat) (h : 0 < val B xs) : 0 < (trimN xs).length := by
  rw [← val_trim] at h
  cases e : trimN xs with
  | nil => rw [e] at h; simp [val] at h
  | cons _ _ => simp

theorem neg_trim {l : List UInt8} (h : formed l = true) : (neg l && decide (0 < (trimN (digs (body l))).length)) = neg l := by
  cases hn : neg l
  · rfl
  · have := plain_pos (formed_neg h hn)
    have := trim_pos_of (digs (body l)) 10 this
    simp [this]

theorem order_val {a b : List UInt8} (ha : formed a = true) (hb : formed b = true) :
    ordI (neg a) (neg b) (cmpI (val 10 (trimN (digs (body a)))) (val 10 (trimN (digs (body b))))) = cmpN a b := by
  rw [val_trim, val_trim]
  show ordI (neg a) (neg b) (cmpI (dvl (body a)) (dvl (body b))) = cmpN a b
  unfold cmpN
  rw [ha, hb]
  cases neg a <;> cases neg b
  · simp only [ordI]; rw [cmpT_val (formed_canon ha) (formed_canon hb)]; rfl
  · rfl
  · rfl
  · simp only [ordI]; rw [cmpT_val (formed_canon hb) (formed_canon ha), cmpI_swap]; simp

theorem cmpN_val {a b : List UInt8} (ha : formed a = true) (hb : formed b = true) : cmpN a b = cmpI (ival a) (ival b) := by
  rw [← order_val ha hb, val_trim, val_trim]
  show ordI (neg a) (neg b) (cmpI (dvl (body a)) (dvl (body b))) = _
  unfold ival
  cases hna : neg a <;> cases hnb : neg b
  · rfl
  · have := plain_pos (formed_neg hb hnb)
    simp only [ordI]
    unfold cmpI
    rw [if_neg (by simp <;> omega), if_pos (by simp <;> omega)]
  · have := plain_pos (formed_neg ha hna)
    simp only [ordI]
    unfold cmpI
    rw [if_pos (by simp <;> omega)]
  · simp only [ordI]
    rw [← cmpI_swap]
    unfold cmpI
    simp

theorem body_le (s : ByteArray) : (body s.data.toList).length ≤ s.size := by
  unfold body; split <;> simp
theorem cmpS_bd (a b : List UInt8) : -1 ≤ cmpS a b ∧ cmpS a b ≤ 1 := by
  unfold cmpS; split <;> (try split) <;> omega
theorem cmpT_bd (a b : List UInt8) : -1 ≤ cmpT a b ∧ cmpT a b ≤ 1 := by
  have := cmpS_bd a b
  unfold cmpT; split <;> (try split) <;> omega
theorem cmpN_bd (a b : List UInt8) : -1 ≤ cmpN a b ∧ cmpN a b ≤ 1 := by
  have := cmpT_bd (body a) (body b)
  have := cmpT_bd (body b) (body a)
  unfold cmpN
  split <;> (try split) <;> (try split) <;> omega
theorem errN_bd (a b : List UInt8) : 0 ≤ errN a b ∧ errN a b ≤ 1 := by
  unfold errN; split <;> omega

end Go.Proofs.Ytaflpeajapdkdaa.Pl
