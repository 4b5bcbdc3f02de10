import Derived.WalkKit
import Derived.Lib.Strings
namespace Go.Proofs.YtfcbeohkhljboaaDoor.Pl

def isDig (c : UInt8) : Bool := decide (48 ≤ c.toNat) && decide (c.toNat ≤ 57)
def neg (l : List UInt8) : Bool := match l with | [] => false | c :: _ => decide (c.toNat = 45)
def body (l : List UInt8) : List UInt8 := if neg l then l.tail else l
def plainB (l : List UInt8) : Bool := match l with | [] => false | c :: r => !(decide (c.toNat = 48)) && (c :: r).all isDig
def formed (l : List UInt8) : Bool := (l == [48]) || plainB (body l)

theorem neg_nil : neg [] = false := rfl
theorem body_nil : body [] = [] := rfl
theorem neg_cons (c : UInt8) (r : List UInt8) : neg (c :: r) = decide (c.toNat = 45) := rfl

theorem toList_cons (s : ByteArray) (h : 0 < s.size) : s.data.toList = s[0] :: s.data.toList.tail := by
  have hl : 0 < s.data.toList.length := by simpa using h
  cases e : s.data.toList with
  | nil => rw [e] at hl; simp at hl
  | cons c r =>
    have : s[0] = s.data.toList[0]'hl := rfl
    simp only [this, e]; rfl

theorem take_snoc (s : ByteArray) (k : Nat) (h : k < s.size) : s.data.toList.take (k + 1) = s.data.toList.take k ++ [s[k]] := by
  rw [List.take_succ_eq_append_getElem (by simpa using h)]; rfl

theorem size_toList (s : ByteArray) : s.data.toList.length = s.size := by simp
theorem extract_tail (s : ByteArray) : (s.extract 1 s.size).data.toList = s.data.toList.tail := by
  rw [Lib.extract_data]
  simp only [List.drop_one]
  exact List.take_of_length_le (by simp)

theorem eq_of_toList {a b : ByteArray} (h : a.data.toList = b.data.toList) : a = b := by
  cases a; cases b; simp at h; simp [h]

theorem isEmpty_of (s : ByteArray) : s.toList.isEmpty = decide (s.size = 0) := by
  rw [Lib.toList_data]
  have := size_toList s
  cases e : s.data.toList with
  | nil => rw [e] at this; simp at this; simp [← this]
  | cons c r => rw [e] at this; simp at this; have h : ¬ s.size = 0 := by omega
                simp [h]

theorem size_tail (s r : ByteArray) (h : r.data.toList = s.data.toList.tail) : r.size = s.size - 1 := by
  have := size_toList r; rw [h] at this; simp at this; exact this.symm

theorem neg_of (s : ByteArray) (h : 0 < s.size) : neg s.data.toList = decide (s[0].toNat = 45) := by
  rw [toList_cons s h, neg_cons]

theorem beq48 (s : ByteArray) (t : ByteArray) : (s.toList == t.toList) = (s.data.toList == t.data.toList) := by
  rw [Lib.toList_data, Lib.toList_data]

theorem formed_48 (l : List UInt8) (h : l = [48]) : formed l = true := by simp [formed, h]
theorem formed_not (l : List UInt8) (h : ¬ l = [48]) : formed l = plainB (body l) := by simp [formed, h]
theorem plainB_empty (r : ByteArray) (h : r.size = 0) : plainB r.data.toList = false := by
  have := size_toList r
  rw [h] at this
  rw [List.eq_nil_of_length_eq_zero this]; rfl
theorem plainB_zero (r : ByteArray) (h : 0 < r.size) (h0 : r[0].toNat = 48) : plainB r.data.toList = false := by
  rw [toList_cons r h]; simp [plainB, h0]
theorem plainB_some (r : ByteArray) (h : 0 < r.size) (h0 : ¬ r[0].toNat = 48) : plainB r.data.toList = r.data.toList.all isDig := by
  rw [toList_cons r h]; simp [plainB, h0]
theorem all_take_succ (r : ByteArray) (k : Nat) (h : k < r.size) : (r.data.toList.take (k + 1)).all isDig = ((r.data.toList.take k).all isDig && isDig r[k]) := by
  rw [take_snoc r k h, List.all_append]; simp
theorem all_not (r : ByteArray) (k : Nat) (h : k < r.size) (hd : isDig r[k] = false) : r.data.toList.all isDig = false := by
  rw [← Bool.not_eq_true]
  intro ha
  have hm : r[k] ∈ r.data.toList := by
    have : r[k] = r.data.toList[k]'(by simpa using h) := rfl
    rw [this]; exact List.getElem_mem _
  have := List.all_eq_true.1 ha _ hm
  rw [hd] at this; cases this
theorem isDig_lo (c : UInt8) (h : c.toNat < 48) : isDig c = false := by simp [isDig]; omega
theorem isDig_hi (c : UInt8) (h : 57 < c.toNat) : isDig c = false := by simp [isDig]; omega
theorem isDig_mid (c : UInt8) (h : 48 ≤ c.toNat) (h' : c.toNat ≤ 57) : isDig c = true := by simp [isDig]; omega
theorem isDig_iff (c : UInt8) : isDig c = true ↔ 48 ≤ c.toNat ∧ c.toNat ≤ 57 := by simp [isDig]

def cmpI (a b : Int) : Int := if a < b then -1 else if b < a then 1 else 0
def cmpS (a b : List UInt8) : Int := if Op.bytesLess a b then -1 else if a == b then 0 else 1
def cmpT (a b : List UInt8) : Int := if a.length < b.length then -1 else if b.length < a.length then 1 else cmpS a b

def orI (x y : Int) : Int := if x = 0 then y else x
theorem cmpT_eq (a b : ByteArray) : cmpT a.toList b.toList = orI (cmpI (a.size : Int) (b.size : Int)) (cmpS a.toList b.toList) := by
  unfold cmpT cmpI orI
  have ea : a.toList.length = a.size := by rw [Lib.toList_data]; simp
  have eb : b.toList.length = b.size := by rw [Lib.toList_data]; simp
  rw [ea, eb]
  by_cases h1 : a.size < b.size
  · have : (a.size : Int) < b.size := by omega
    simp [h1, this]
  · by_cases h2 : b.size < a.size
    · have h3 : ¬ (a.size : Int) < b.size := by omega
      have h4 : (b.size : Int) < a.size := by omega
      simp [h1, h2, h3, h4]
    · have h3 : ¬ (a.size : Int) < b.size := by omega
      have h4 : ¬ (b.size : Int) < a.size := by omega
      simp [h1, h2, h3, h4]

def errN (a b : List UInt8) : Int := if formed a && formed b then 0 else 1
def cmpN (a b : List UInt8) : Int := if formed a && formed b then (if neg a then (if neg b then cmpT (body b) (body a) else -1) else if neg b then 1 else cmpT (body a) (body b)) else 0

theorem body_drop (s : ByteArray) (f : Nat) (hf : f = if neg s.data.toList then 1 else 0) : body s.data.toList = s.data.toList.drop f := by
  unfold body
  cases h : neg s.data.toList <;> simp [h] at hf <;> subst hf <;> simp

theorem formed_short (s : ByteArray) (f : Nat) (hf : f = if neg s.data.toList then 1 else 0) (he : f = s.size) : formed s.data.toList = false := by
  have hb := body_drop s f hf
  have hn : body s.data.toList = [] := by rw [hb, he]; exact List.drop_eq_nil_of_le (by simp)
  rw [formed_not, hn]
  · rfl
  · intro e
    rw [e] at hn; exact absurd hn (by decide)

theorem all_drop (s : ByteArray) (f : Nat) : (s.data.toList.drop f).all isDig = true ↔ ∀ j (h : j < s.size), f ≤ j → isDig s[j] = true := by
  rw [List.all_eq_true]
  constructor
  · intro h j hj hfj
    apply h
    have e : s[j] = (s.data.toList.drop f)[j - f]'(by simp; omega) := by
      rw [List.getElem_drop]
      have : f + (j - f) = j := by omega
      simp only [this]; rfl
    rw [e]; exact List.getElem_mem _
  · intro h x hx
    obtain ⟨i, hi, rfl⟩ := List.mem_iff_getElem.1 hx
    rw [List.getElem_drop]
    have hi' : f + i < s.size := by simp at hi; omega
    exact h (f + i) hi' (by omega)

theorem formed_bad (s : ByteArray) (f : Nat) (hf : f = if neg s.data.toList then 1 else 0) (k : Nat) (hk : k < s.size) (hfk : f ≤ k) (hd : isDig s[k] = false) : formed s.data.toList = false := by
  have hall : (s.data.toList.drop f).all isDig = false := by
    rw [← Bool.not_eq_true, all_drop]
    intro h
    have := h k hk hfk
    rw [hd] at this; cases this
  rw [formed_not, body_drop s f hf]
  · cases e : s.data.toList.drop f with
    | nil => rfl
    | cons c r => rw [e] at hall; simp only [plainB, hall, Bool.and_false]
  · intro e
    have hm : s[k] ∈ s.data.toList := by
      have : s[k] = s.data.toList[k]'(by simpa using hk) := rfl
      rw [this]; exact List.getElem_mem _
    rw [e] at hm
    simp at hm
    rw [hm] at hd; exact absurd hd (by decide)

theorem formed_good (s : ByteArray) (f : Nat) (hf : f = if neg s.data.toList then 1 else 0) (hlt : f < s.size) (hall : ∀ j (h : j < s.size), f ≤ j → isDig s[j] = true) :
    formed s.data.toList = (!(((s[f].toNat : Nat) : Int) == 48) || s.toList == [48]) := by
  have ha := (all_drop s f).2 hall
  have hc : s.data.toList.drop f = s[f] :: s.data.toList.drop (f + 1) := by
    rw [List.drop_eq_getElem_cons (by simpa using hlt)]; rfl
  unfold formed
  rw [body_drop s f hf, Lib.toList_data]
  rw [hc] at ha ⊢
  simp only [plainB, ha, Bool.and_true]
  rw [Bool.or_comm]
  congr 1
  congr 1
  by_cases e : s[f].toNat = 48 <;> simp [e]
  omega

end Go.Proofs.YtfcbeohkhljboaaDoor.Pl
namespace Go.RowKit
theorem Hid.mk {p : Prop} (h : p) : Hid p := h
end Go.RowKit
namespace Go.Proofs.YtfcbeohkhljboaaDoor.Pl
set_option linter.unusedVariables false
set_option linter.unusedSimpArgs false

def val (B : Nat) : List Nat → Nat
  | [] => 0
  | x :: r => x + B * val B r

def trimN : List Nat → List Nat
  | [] => []
  | x :: r => match trimN r with
    | [] => if x = 0 then [] else [x]
    | y :: t => x :: y :: t

def dig (B : Nat) (xs : List Nat) : Prop := ∀ x ∈ xs, x < B
def Top (xs : List Nat) : Prop := trimN xs = xs

theorem val_nil (B : Nat) : val B [] = 0 := rfl
theorem val_cons (B x : Nat) (r : List Nat) : val B (x :: r) = x + B * val B r := rfl

theorem val_trim (B : Nat) (xs : List Nat) : val B (trimN xs) = val B xs := by
  induction xs with
  | nil => rfl
  | cons x r ih =>
    simp only [trimN]
    cases e : trimN r with
    | nil =>
      rw [e] at ih
      by_cases h : x = 0
      · simp [h, val_cons, ← ih, val_nil]
      · simp [h, val_cons, ← ih, val_nil]
    | cons y t => rw [e] at ih; simp only [val_cons] at ih ⊢; rw [ih]

theorem trim_trim (xs : List Nat) : trimN (trimN xs) = trimN xs := by
  induction xs with
  | nil => rfl
  | cons x r ih =>
    simp only [trimN]
    cases e : trimN r with
    | nil => by_cases h : x = 0 <;> simp [h, trimN]
    | cons y t =>
      rw [e] at ih
      show trimN (x :: y :: t) = x :: y :: t
      conv => lhs; unfold trimN
      rw [ih]

theorem top_trim (xs : List Nat) : Top (trimN xs) := trim_trim xs

theorem trim_len (xs : List Nat) : (trimN xs).length ≤ xs.length := by
  induction xs with
  | nil => exact Nat.le_refl _
  | cons x r ih =>
    simp only [trimN]
    cases e : trimN r with
    | nil => by_cases h : x = 0 <;> simp [h]
    | cons y t => rw [e] at ih; simp at ih ⊢; omega

theorem trim_mem (xs : List Nat) (y : Nat) (h : y ∈ trimN xs) : y ∈ xs := by
  induction xs with
  | nil => exact h
  | cons x r ih =>
    simp only [trimN] at h
    cases e : trimN r with
    | nil =>
      rw [e] at h
      by_cases hx : x = 0
      · simp [hx] at h
      · simp [hx] at h; simp [h]
    | cons z t =>
      rw [e] at h ih
      rcases List.mem_cons.1 h with h | h
      · simp [h]
      · exact List.mem_cons_of_mem _ (ih h)

theorem dig_trim {B : Nat} {xs : List Nat} (h : dig B xs) : dig B (trimN xs) := fun y hy => h y (trim_mem xs y hy)
theorem dig_nil (B : Nat) : dig B [] := fun _ h => by cases h
theorem dig_cons {B x : Nat} {r : List Nat} : dig B (x :: r) ↔ x < B ∧ dig B r := by
  unfold dig; simp
theorem dig_append {B : Nat} {l r : List Nat} : dig B (l ++ r) ↔ dig B l ∧ dig B r := by
  unfold dig
  constructor
  · intro h; exact ⟨fun x hx => h x (by simp [hx]), fun x hx => h x (by simp [hx])⟩
  · rintro ⟨h, k⟩ x hx
    rcases List.mem_append.1 hx with hx | hx
    · exact h x hx
    · exact k x hx
theorem dig_take {B : Nat} {l : List Nat} (n : Nat) (h : dig B l) : dig B (l.take n) := fun x hx => h x (List.mem_of_mem_take hx)
theorem dig_drop {B : Nat} {l : List Nat} (n : Nat) (h : dig B l) : dig B (l.drop n) := fun x hx => h x (List.mem_of_mem_drop hx)
theorem dig_getD {B : Nat} {xs : List Nat} (hB : 0 < B) (h : dig B xs) (i : Nat) : xs.getD i 0 < B := by
  by_cases hi : i < xs.length
  · rw [List.getD_eq_getElem?_getD, List.getElem?_eq_getElem hi]
    exact h _ (List.getElem_mem hi)
  · rw [List.getD_eq_getElem?_getD, List.getElem?_eq_none (by omega)]; exact hB

/-- what a loop from the top down leaves is the trimmed row -/
theorem trim_take (xs : List Nat) (n : Nat) (hn : n ≤ xs.length) (hz : ∀ i, n ≤ i → xs.getD i 0 = 0) (ht : n = 0 ∨ xs.getD (n - 1) 0 ≠ 0) : trimN xs = xs.take n := by
  induction xs generalizing n with
  | nil => simp [trimN]
  | cons x r ih =>
    cases n with
    | zero =>
      have h0 : trimN r = [] := by
        have := ih 0 (Nat.zero_le _) (fun i _ => by have := hz (i + 1) (by omega); simpa using this) (Or.inl rfl)
        simpa using this
      have hx : x = 0 := by have := hz 0 (Nat.le_refl _); simpa using this
      simp [trimN, h0, hx]
    | succ m =>
      have hr := ih m (by simp at hn; omega) (fun i hi => by have := hz (i + 1) (by omega); simpa using this) (by
        cases m with
        | zero => exact Or.inl rfl
        | succ q => right; rcases ht with ht | ht
                    · omega
                    · simpa using ht)
      simp only [trimN, hr, List.take_succ_cons]
      cases m with
      | zero =>
        have hx : x ≠ 0 := by rcases ht with ht | ht
                              · omega
                              · simpa using ht
        simp [hx]
      | succ q =>
        cases r with
        | nil => simp at hn
        | cons z t => simp

theorem top_last {xs : List Nat} (h : Top xs) (hn : 0 < xs.length) : xs.getD (xs.length - 1) 0 ≠ 0 := by
  induction xs with
  | nil => simp at hn
  | cons x r ih =>
    unfold Top at h
    simp only [trimN] at h
    cases e : trimN r with
    | nil =>
      rw [e] at h
      by_cases hx : x = 0
      · simp [hx] at h
      · simp [hx] at h; subst h; simpa using hx
    | cons y t =>
      rw [e] at h
      have hr : r = y :: t := by simpa using h.symm
      have := ih (by unfold Top; rw [e, hr]) (by rw [hr]; simp)
      rw [hr] at this ⊢
      simpa using this

theorem val_lt {B : Nat} {xs : List Nat} (h : dig B xs) : val B xs < B ^ xs.length := by
  induction xs with
  | nil => simp [val]
  | cons x r ih =>
    have hx := (dig_cons.1 h).1
    have hr := ih (dig_cons.1 h).2
    simp only [val_cons, List.length_cons, Nat.pow_succ]
    have : B * val B r + B ≤ B * B ^ r.length := by
      rw [← Nat.mul_succ]; exact Nat.mul_le_mul_left _ hr
    rw [Nat.mul_comm (B ^ r.length) B]
    omega

theorem val_append (B : Nat) (l r : List Nat) : val B (l ++ r) = val B l + B ^ l.length * val B r := by
  induction l with
  | nil => simp [val]
  | cons x t ih =>
    simp only [List.cons_append, val_cons, ih, List.length_cons, Nat.pow_succ, Nat.mul_add, Nat.add_assoc]
    rw [Nat.mul_comm (B ^ t.length) B, Nat.mul_assoc]

theorem val_ge_top {B : Nat} {xs : List Nat} (hn : 0 < xs.length) (ht : xs.getD (xs.length - 1) 0 ≠ 0) : B ^ (xs.length - 1) ≤ val B xs := by
  induction xs with
  | nil => simp at hn
  | cons x r ih =>
    cases r with
    | nil => simp at ht; simp [val]; omega
    | cons y t =>
      have h1 := ih (by simp) (by simpa using ht)
      simp only [List.length_cons, Nat.add_sub_cancel] at h1 ⊢
      rw [val_cons, Nat.pow_succ, Nat.mul_comm]
      have := Nat.mul_le_mul_left B h1
      omega

theorem val_lt_of_len {B : Nat} (hB : 0 < B) {a b : List Nat} (ha : dig B a) (tb : Top b) (h : a.length < b.length) : val B a < val B b := by
  have h1 := val_lt ha
  have h2 := val_ge_top (B := B) (xs := b) (by omega) (top_last tb (by omega))
  have h3 : B ^ a.length ≤ B ^ (b.length - 1) := Nat.pow_le_pow_right hB (by omega)
  omega

/-- the row from place i on decides, where all above agrees -/
theorem val_lt_at {B : Nat} {a b : List Nat} (i : Nat) (hl : a.length = b.length) (hi : i < a.length) (ha : dig B a) (hlt : a.getD i 0 < b.getD i 0) (hup : ∀ j, i < j → a.getD j 0 = b.getD j 0) : val B a < val B b := by
  induction a generalizing b i with
  | nil => simp at hi
  | cons x r ih =>
    cases b with
    | nil => simp at hl
    | cons y t =>
      simp only [val_cons]
      cases i with
      | zero =>
        have he : r = t := by
          apply List.ext_getElem (by simpa using hl)
          intro j h1 h2
          have := hup (j + 1) (by omega)
          simpa [List.getElem?_eq_getElem h1, List.getElem?_eq_getElem h2] using this
        subst he
        simp at hlt
        omega
      | succ k =>
        have hr := ih k (by simpa using hl) (by simpa using hi) (dig_cons.1 ha).2 (by simpa using hlt) (fun j hj => by have := hup (j + 1) (by omega); simpa using this)
        have hx := (dig_cons.1 ha).1
        have : B * val B r + B ≤ B * val B t := by rw [← Nat.mul_succ]; exact Nat.mul_le_mul_left _ hr
        omega

theorem eq_of_getD {a b : List Nat} (hl : a.length = b.length) (h : ∀ j, a.getD j 0 = b.getD j 0) : a = b := by
  apply List.ext_getElem hl
  intro j h1 h2
  have := h j
  simpa [List.getElem?_eq_getElem h1, List.getElem?_eq_getElem h2] using this

theorem above {xs ys : List Nat} {n : Nat} (h : xs.length = n) (hl : xs.length = ys.length) : ∀ j, n ≤ j → xs.getD j 0 = ys.getD j 0 := by
  intro j hj
  simp [List.getElem?_eq_none (show xs.length ≤ j by omega), List.getElem?_eq_none (show ys.length ≤ j by omega)]
theorem cmp_less {a b : Nat} (h : a < b) : cmpI (a : Int) (b : Int) = -1 := by simp [cmpI, h]
theorem cmp_more {a b : Nat} (h : b < a) : cmpI (a : Int) (b : Int) = 1 := by
  have : ¬ a < b := by omega
  simp [cmpI, h, this]
theorem cmp_eq {a b : Nat} (h : a = b) : cmpI (a : Int) (b : Int) = 0 := by simp [cmpI, h]
theorem cmp_same {B : Nat} {xs ys : List Nat} (hl : xs.length = ys.length) (h : ∀ j, 0 ≤ j → xs.getD j 0 = ys.getD j 0) : cmpI (val B xs) (val B ys) = 0 := by
  rw [eq_of_getD hl (fun j => h j (Nat.zero_le _))]; exact cmp_eq rfl

theorem getD_past {xs : List Nat} {j : Nat} (h : xs.length ≤ j) : xs.getD j 0 = 0 := by
  simp [List.getElem?_eq_none h]

def ordI (a b : Bool) (c : Int) : Int := match a, b with
  | false, false => c
  | false, true => 1
  | true, false => -1
  | true, true => -c
theorem cmpI_bd (a b : Int) : -1 ≤ cmpI a b ∧ cmpI a b ≤ 1 := by
  unfold cmpI; split <;> (try split) <;> omega

/-- a text's digits, the lowest first -/
def digs (l : List UInt8) : List Nat := (l.map fun c => c.toNat - 48).reverse

theorem digs_end (s : ByteArray) : digs (s.data.toList.drop s.size) = [] := by
  rw [List.drop_eq_nil_of_le (by simp)]; rfl
theorem digs_step (s : ByteArray) (m : Nat) (h : m < s.size) : digs (s.data.toList.drop m) = digs (s.data.toList.drop (m + 1)) ++ [s[m].toNat - 48] := by
  rw [List.drop_eq_getElem_cons (show m < s.data.toList.length by simpa using h)]
  simp only [digs, List.map_cons, List.reverse_cons]
  rfl
theorem digs_len (s : ByteArray) (m : Nat) : (digs (s.data.toList.drop m)).length = s.size - m := by simp [digs]

end Go.Proofs.YtfcbeohkhljboaaDoor.Pl
