import Derived.WalkKit
import Derived.Lib.Strings
namespace Go.Proofs.Ytaflpeajapdkdaa.Pl

def isDig (c : UInt8) : Bool := decide (48 ≤ c.toNat) && decide (c.toNat ≤ 57)
def neg (l : List UInt8) : Bool := match l with | [] => false | c :: _ => decide (c.toNat = 45)
def body (l : List UInt8) : List UInt8 := if neg l then l.tail else l
def plainB (l : List UInt8) : Bool := match l with | [] => false | c :: r => !(decide (c.toNat = 48)) && (c :: r).all isDig
def formed (l : List UInt8) : Bool := (l == [48]) || plainB (body l)

theorem neg_nil : neg [] = false := rfl
theorem body_nil : body [] = [] := rfl
theorem neg_cons (c : UInt8) (r : List UInt8) : neg (c :: r) = decide (c.toNat = 45) := rfl

theorem toList_cons (s : ByteArray) (h : 0 < s.size) : s.data.toList = s[0] :: s.data.toList.tail := by
  have hl : 0 < s.data.toList.length := by simpa using h
  cases e : s.data.toList with
  | nil => rw [e] at hl; simp at hl
  | cons c r =>
    have : s[0] = s.data.toList[0]'hl := rfl
    simp only [this, e]; rfl

theorem take_snoc (s : ByteArray) (k : Nat) (h : k < s.size) : s.data.toList.take (k + 1) = s.data.toList.take k ++ [s[k]] := by
  rw [List.take_succ_eq_append_getElem (by simpa using h)]; rfl

theorem size_toList (s : ByteArray) : s.data.toList.length = s.size := by simp
theorem extract_tail (s : ByteArray) : (s.extract 1 s.size).data.toList = s.data.toList.tail := by
  rw [Lib.extract_data]
  simp only [List.drop_one]
  exact List.take_of_length_le (by simp)

theorem eq_of_toList {a b : ByteArray} (h : a.data.toList = b.data.toList) : a = b := by
  cases a; cases b; simp at h; simp [h]

theorem isEmpty_of (s : ByteArray) : s.toList.isEmpty = decide (s.size = 0) := by
  rw [Lib.toList_data]
  have := size_toList s
  cases e : s.data.toList with
  | nil => rw [e] at this; simp at this; simp [← this]
  | cons c r => rw [e] at this; simp at this; have h : ¬ s.size = 0 := by omega
                simp [h]

theorem size_tail (s r : ByteArray) (h : r.data.toList = s.data.toList.tail) : r.size = s.size - 1 := by
  have := size_toList r; rw [h] at this; simp at this; exact this.symm

theorem neg_of (s : ByteArray) (h : 0 < s.size) : neg s.data.toList = decide (s[0].toNat = 45) := by
  rw [toList_cons s h, neg_cons]

theorem beq48 (s : ByteArray) (t : ByteArray) : (s.toList == t.toList) = (s.data.toList == t.data.toList) := by
  rw [Lib.toList_data, Lib.toList_data]

theorem formed_48 (l : List UInt8) (h : l = [48]) : formed l = true := by simp [formed, h]
theorem formed_not (l : List UInt8) (h : ¬ l = [48]) : formed l = plainB (body l) := by simp [formed, h]
theorem plainB_empty (r : ByteArray) (h : r.size = 0) : plainB r.data.toList = false := by
  have := size_toList r
  rw [h] at this
  rw [List.eq_nil_of_length_eq_zero this]; rfl
theorem plainB_zero (r : ByteArray) (h : 0 < r.size) (h0 : r[0].toNat = 48) : plainB r.data.toList = false := by
  rw [toList_cons r h]; simp [plainB, h0]
theorem plainB_some (r : ByteArray) (h : 0 < r.size) (h0 : ¬ r[0].toNat = 48) : plainB r.data.toList = r.data.toList.all isDig := by
  rw [toList_cons r h]; simp [plainB, h0]
theorem all_take_succ (r : ByteArray) (k : Nat) (h : k < r.size) : (r.data.toList.take (k + 1)).all isDig = ((r.data.toList.take k).all isDig && isDig r[k]) := by
  rw [take_snoc r k h, List.all_append]; simp
theorem all_not (r : ByteArray) (k : Nat) (h : k < r.size) (hd : isDig r[k] = false) : r.data.toList.all isDig = false := by
  rw [← Bool.not_eq_true]
  intro ha
  have hm : r[k] ∈ r.data.toList := by
    have : r[k] = r.data.toList[k]'(by simpa using h) := rfl
    rw [this]; exact List.getElem_mem _
  have := List.all_eq_true.1 ha _ hm
  rw [hd] at this; cases this
theorem isDig_lo (c : UInt8) (h : c.toNat < 48) : isDig c = false := by simp [isDig]; omega
theorem isDig_hi (c : UInt8) (h : 57 < c.toNat) : isDig c = false := by simp [isDig]; omega
theorem isDig_mid (c : UInt8) (h : 48 ≤ c.toNat) (h' : c.toNat ≤ 57) : isDig c = true := by simp [isDig]; omega
theorem isDig_iff (c : UInt8) : isDig c = true ↔ 48 ≤ c.toNat ∧ c.toNat ≤ 57 := by simp [isDig]

def cmpI (a b : Int) : Int := if a < b then -1 else if b < a then 1 else 0
def cmpS (a b : List UInt8) : Int := if Op.bytesLess a b then -1 else if a == b then 0 else 1
def cmpT (a b : List UInt8) : Int := if a.length < b.length then -1 else if b.length < a.length then 1 else cmpS a b

def orI (x y : Int) : Int := if x = 0 then y else x
theorem cmpT_eq (a b : ByteArray) : cmpT a.toList b.toList = orI (cmpI (a.size : Int) (b.size : Int)) (cmpS a.toList b.toList) := by
  unfold cmpT cmpI orI
  have ea : a.toList.length = a.size := by rw [Lib.toList_data]; simp
  have eb : b.toList.length = b.size := by rw [Lib.toList_data]; simp
  rw [ea, eb]
  by_cases h1 : a.size < b.size
  · have : (a.size : Int) < b.size := by omega
    simp [h1, this]
  · by_cases h2 : b.size < a.size
    · have h3 : ¬ (a.size : Int) < b.size := by omega
      have h4 : (b.size : Int) < a.size := by omega
      simp [h1, h2, h3, h4]
    · have h3 : ¬ (a.size : Int) < b.size := by omega
      have h4 : ¬ (b.size : Int) < a.size := by omega
      simp [h1, h2, h3, h4]

def errN (a b : List UInt8) : Int := if formed a && formed b then 0 else 1
def cmpN (a b : List UInt8) : Int := if formed a && formed b then (if neg a then (if neg b then cmpT (body b) (body a) else -1) else if neg b then 1 else cmpT (body a) (body b)) else 0

theorem body_drop (s : ByteArray) (f : Nat) (hf : f = if neg s.data.toList then 1 else 0) : body s.data.toList = s.data.toList.drop f := by
  unfold body
  cases h : neg s.data.toList <;> simp [h] at hf <;> subst hf <;> simp

theorem formed_short (s : ByteArray) (f : Nat) (hf : f = if neg s.data.toList then 1 else 0) (he : f = s.size) : formed s.data.toList = false := by
  have hb := body_drop s f hf
  have hn : body s.data.toList = [] := by rw [hb, he]; exact List.drop_eq_nil_of_le (by simp)
  rw [formed_not, hn]
  · rfl
  · intro e
    rw [e] at hn; exact absurd hn (by decide)

theorem all_drop (s : ByteArray) (f : Nat) : (s.data.toList.drop f).all isDig = true ↔ ∀ j (h : j < s.size), f ≤ j → isDig s[j] = true := by
  rw [List.all_eq_true]
  constructor
  · intro h j hj hfj
    apply h
    have e : s[j] = (s.data.toList.drop f)[j - f]'(by simp; omega) := by
      rw [List.getElem_drop]
      have : f + (j - f) = j := by omega
      simp only [this]; rfl
    rw [e]; exact List.getElem_mem _
  · intro h x hx
    obtain ⟨i, hi, rfl⟩ := List.mem_iff_getElem.1 hx
    rw [List.getElem_drop]
    have hi' : f + i < s.size := by simp at hi; omega
    exact h (f + i) hi' (by omega)

theorem formed_bad (s : ByteArray) (f : Nat) (hf : f = if neg s.data.toList then 1 else 0) (k : Nat) (hk : k < s.size) (hfk : f ≤ k) (hd : isDig s[k] = false) : formed s.data.toList = false := by
  have hall : (s.data.toList.drop f).all isDig = false := by
    rw [← Bool.not_eq_true, all_drop]
    intro h
    have := h k hk hfk
    rw [hd] at this; cases this
  rw [formed_not, body_drop s f hf]
  · cases e : s.data.toList.drop f with
    | nil => rfl
    | cons c r => rw [e] at hall; simp only [plainB, hall, Bool.and_false]
  · intro e
    have hm : s[k] ∈ s.data.toList := by
      have : s[k] = s.data.toList[k]'(by simpa using hk) := rfl
      rw [this]; exact List.getElem_mem _
    rw [e] at hm
    simp at hm
    rw [hm] at hd; exact absurd hd (by decide)

theorem formed_good (s : ByteArray) (f : Nat) (hf : f = if neg s.data.toList then 1 else 0) (hlt : f < s.size) (hall : ∀ j (h : j < s.size), f ≤ j → isDig s[j] = true) :
    formed s.data.toList = (!(((s[f].toNat : Nat) : Int) == 48) || s.toList == [48]) := by
  have ha := (all_drop s f).2 hall
  have hc : s.data.toList.drop f = s[f] :: s.data.toList.drop (f + 1) := by
    rw [List.drop_eq_getElem_cons (by simpa using hlt)]; rfl
  unfold formed
  rw [body_drop s f hf, Lib.toList_data]
  rw [hc] at ha ⊢
  simp only [plainB, ha, Bool.and_true]
  rw [Bool.or_comm]
  congr 1
  congr 1
  by_cases e : s[f].toNat = 48 <;> simp [e]
  omega

end Go.Proofs.Ytaflpeajapdkdaa.Pl
namespace Go.RowKit
theorem Hid.mk {p : Prop} (h : p) : Hid p := h
end Go.RowKit
