import Derived.Test.YtcpnodkcnblkdaaGreatDoorM0
import Derived.Test.YtcpnodkcnblkdaaGreatDoorM1
import Derived.Test.YtcpnodkcnblkdaaGreatDoorM2
import Derived.Test.YtcpnodkcnblkdaaGreatDoorM3
import Derived.Test.YtcpnodkcnblkdaaGreatDoorM4
import Derived.Test.YtcpnodkcnblkdaaGreatDoorM5
import Derived.Test.YtcpnodkcnblkdaaGreatDoorM6
import Derived.Test.YtcpnodkcnblkdaaGreatDoorM7
import Derived.Test.YtcpnodkcnblkdaaGreatDoorM8
import Derived.Test.YtcpnodkcnblkdaaGreatDoorM9
import Derived.Test.YtcpnodkcnblkdaaGreatDoorM10
import Derived.Test.YtcpnodkcnblkdaaGreatDoorM11
import Derived.Test.YtcpnodkcnblkdaaGreatDoorM12
import Derived.Test.YtcpnodkcnblkdaaGreatDoorM13
import Derived.Test.YtcpnodkcnblkdaaGreatDoorM14
import Derived.Test.YtcpnodkcnblkdaaGreatDoorM15
import Derived.Test.YtcpnodkcnblkdaaGreatDoorM16
import Derived.Test.YtcpnodkcnblkdaaGreatDoorM17
import Derived.Test.YtcpnodkcnblkdaaGreatDoorM18
import Derived.Test.YtcpnodkcnblkdaaGreatDoorM19
import Derived.Test.YtcpnodkcnblkdaaGreatDoorM20
import Derived.Test.YtcpnodkcnblkdaaGreatDoorM21
import Derived.Test.YtcpnodkcnblkdaaGreatDoorM22
import Derived.Test.YtcpnodkcnblkdaaGreatDoorM23
import Derived.Test.YtcpnodkcnblkdaaGreatDoorM24
import Derived.Test.YtcpnodkcnblkdaaGreatDoorM25
import Derived.Test.YtcpnodkcnblkdaaGreatDoorM26
import Derived.Test.YtcpnodkcnblkdaaGreatDoorM27
import Derived.Test.YtcpnodkcnblkdaaGreatDoorM28
import Derived.Test.YtcpnodkcnblkdaaGreatDoorM29
import Derived.Test.YtcpnodkcnblkdaaGreatDoorM30
import Derived.Test.YtcpnodkcnblkdaaGreatDoorM31
import Derived.Test.YtcpnodkcnblkdaaGreatDoorM32
import Derived.Test.YtcpnodkcnblkdaaGreatDoorM33
import Derived.Test.YtcpnodkcnblkdaaGreatDoorM34
import Derived.Test.YtcpnodkcnblkdaaGreatDoorM35
import Derived.Test.YtcpnodkcnblkdaaGreatDoorM36
import Derived.Test.YtcpnodkcnblkdaaGreatDoorM37
import Derived.Test.YtcpnodkcnblkdaaGreatDoorM38
import Derived.Test.YtcpnodkcnblkdaaGreatDoorM39
import Derived.Test.YtcpnodkcnblkdaaGreatDoorM40
import Derived.Test.YtcpnodkcnblkdaaGreatDoorM41
import Derived.Test.YtcpnodkcnblkdaaGreatDoorM42
import Derived.Test.YtcpnodkcnblkdaaGreatDoorM43
import Derived.Test.YtcpnodkcnblkdaaGreatDoorM44
import Derived.Test.YtcpnodkcnblkdaaGreatDoorM45
/- Texts as numbers: what the walks are held against. No Go here. -/
namespace Go.Proofs.YtcpnodkcnblkdaaGreatDoor.Pl

theorem size_tail (s r : ByteArray) (h : r.data.toList = s.data.toList.tail) : r.size = s.size - 1 := by
  have := size_toList r; rw [h] at this; simp at this; exact this.symm

theorem isDig_iff (c : UInt8) : isDig c = true ↔ 48 ≤ c.toNat ∧ c.toNat ≤ 57 := by simp [isDig]

def cmpI (a b : Int) : Int := if a < b then -1 else if b < a then 1 else 0
end Go.Proofs.YtcpnodkcnblkdaaGreatDoor.Pl
namespace Go.RowKit
end Go.RowKit

/- Rows of digits to a base: what they are worth, their order, their noughts at the top. No Go here. -/
namespace Go.Proofs.YtcpnodkcnblkdaaGreatDoor.Pl
set_option linter.unusedVariables false
set_option linter.unusedSimpArgs false

def trimN : List Nat → List Nat
  | [] => []
  | x :: r => match trimN r with
    | [] => if x = 0 then [] else [x]
    | y :: t => x :: y :: t

def dig (B : Nat) (xs : List Nat) : Prop := ∀ x ∈ xs, x < B
theorem val_nil (B : Nat) : val B [] = 0 := rfl
theorem val_cons (B x : Nat) (r : List Nat) : val B (x :: r) = x + B * val B r := rfl

theorem val_trim (B : Nat) (xs : List Nat) : val B (trimN xs) = val B xs := by
  induction xs with
  | nil => rfl
  | cons x r ih =>
    simp only [trimN]
    cases e : trimN r with
    | nil =>
      rw [e] at ih
      by_cases h : x = 0
      · simp [h, val_cons, ← ih, val_nil]
      · simp [h, val_cons, ← ih, val_nil]
    | cons y t => rw [e] at ih; simp only [val_cons] at ih ⊢; rw [ih]

theorem dig_cons {B x : Nat} {r : List Nat} : dig B (x :: r) ↔ x < B ∧ dig B r := by
  unfold dig; simp
theorem val_lt {B : Nat} {xs : List Nat} (h : dig B xs) : val B xs < B ^ xs.length := by
  induction xs with
  | nil => simp [val]
  | cons x r ih =>
    have hx := (dig_cons.1 h).1
    have hr := ih (dig_cons.1 h).2
    simp only [val_cons, List.length_cons, Nat.pow_succ]
    have : B * val B r + B ≤ B * B ^ r.length := by
      rw [← Nat.mul_succ]; exact Nat.mul_le_mul_left _ hr
    rw [Nat.mul_comm (B ^ r.length) B]
    omega

theorem val_append (B : Nat) (l r : List Nat) : val B (l ++ r) = val B l + B ^ l.length * val B r := by
  induction l with
  | nil => simp [val]
  | cons x t ih =>
    simp only [List.cons_append, val_cons, ih, List.length_cons, Nat.pow_succ, Nat.mul_add, Nat.add_assoc]
    rw [Nat.mul_comm (B ^ t.length) B, Nat.mul_assoc]

theorem cmp_less {a b : Nat} (h : a < b) : cmpI (a : Int) (b : Int) = -1 := by simp [cmpI, h]
theorem cmp_more {a b : Nat} (h : b < a) : cmpI (a : Int) (b : Int) = 1 := by
  have : ¬ a < b := by omega
  simp [cmpI, h, this]
theorem cmp_eq {a b : Nat} (h : a = b) : cmpI (a : Int) (b : Int) = 0 := by simp [cmpI, h]
def ordI (a b : Bool) (c : Int) : Int := match a, b with
  | false, false => c
  | false, true => 1
  | true, false => -1
  | true, true => -c
def digs (l : List UInt8) : List Nat := (l.map fun c => c.toNat - 48).reverse

end Go.Proofs.YtcpnodkcnblkdaaGreatDoor.Pl

/- The order of texts is the order of what they are worth. No Go here. -/
namespace Go.Proofs.YtcpnodkcnblkdaaGreatDoor.Pl
set_option linter.unusedVariables false
set_option linter.unusedSimpArgs false

def dvl (l : List UInt8) : Nat := val 10 (digs l)

theorem digs_length (l : List UInt8) : (digs l).length = l.length := by simp [digs]
theorem dvl_cons (c : UInt8) (r : List UInt8) : dvl (c :: r) = dvl r + 10 ^ r.length * (c.toNat - 48) := by
  unfold dvl
  have : digs (c :: r) = digs r ++ [c.toNat - 48] := by simp [digs]
  rw [this, val_append, digs_length]
  simp [val]

theorem digs_dig (l : List UInt8) (h : l.all isDig = true) : dig 10 (digs l) := by
  intro x hx
  simp only [digs, List.mem_reverse, List.mem_map] at hx
  obtain ⟨c, hc, rfl⟩ := hx
  have := (isDig_iff c).1 (List.all_eq_true.1 h c hc)
  omega

theorem dvl_lt (l : List UInt8) (h : l.all isDig = true) : dvl l < 10 ^ l.length := by
  have := val_lt (digs_dig l h)
  rwa [digs_length] at this

theorem dvl_ge (c : UInt8) (r : List UInt8) (h : isDig c = true) (h0 : ¬ c.toNat = 48) : 10 ^ r.length ≤ dvl (c :: r) := by
  rw [dvl_cons]
  have := (isDig_iff c).1 h
  have h1 : 10 ^ r.length * 1 ≤ 10 ^ r.length * (c.toNat - 48) := Nat.mul_le_mul_left _ (by omega)
  omega

def canon (l : List UInt8) : Prop := l = [48] ∨ plainB l = true

theorem canon_dig {l : List UInt8} (h : canon l) : l.all isDig = true := by
  rcases h with rfl | h
  · decide
  · cases l with
    | nil => simp [plainB] at h
    | cons c r => simp only [plainB, Bool.and_eq_true] at h; exact h.2

theorem canon_len {l : List UInt8} (h : canon l) : 0 < l.length := by
  rcases h with rfl | h
  · decide
  · cases l with
    | nil => simp [plainB] at h
    | cons c r => simp

theorem canon_ge {l : List UInt8} (h : canon l) (hl : 1 < l.length) : 10 ^ (l.length - 1) ≤ dvl l := by
  rcases h with rfl | h
  · simp at hl
  · cases l with
    | nil => simp [plainB] at h
    | cons c r =>
      simp only [plainB, Bool.and_eq_true] at h
      have hc := (List.all_eq_true.1 h.2) c (by simp)
      exact dvl_ge c r hc (by simpa using h.1)

theorem plain_pos {l : List UInt8} (h : plainB l = true) : 0 < dvl l := by
  cases l with
  | nil => simp [plainB] at h
  | cons c r =>
    simp only [plainB, Bool.and_eq_true] at h
    have hc := (List.all_eq_true.1 h.2) c (by simp)
    have := dvl_ge c r hc (by simpa using h.1)
    have : 0 < 10 ^ r.length := Nat.pow_pos (by decide)
    omega

theorem len_lt {p q : List UInt8} (hp : canon p) (hq : canon q) (h : p.length < q.length) : dvl p < dvl q := by
  have h1 := dvl_lt p (canon_dig hp)
  have h0 := canon_len hp
  have h2 := canon_ge hq (by omega)
  have h3 : 10 ^ p.length ≤ 10 ^ (q.length - 1) := Nat.pow_le_pow_right (by decide) (by omega)
  omega

theorem less_val (p q : List UInt8) (hl : p.length = q.length) (hp : p.all isDig = true) (hq : q.all isDig = true) :
    (Op.bytesLess p q = true ↔ dvl p < dvl q) ∧ (p = q ↔ dvl p = dvl q) := by
  induction p generalizing q with
  | nil =>
    cases q with
    | nil => simp [Op.bytesLess]
    | cons _ _ => simp at hl
  | cons c r ih =>
    cases q with
    | nil => simp at hl
    | cons d t =>
      have hl' : r.length = t.length := by simpa using hl
      simp only [List.all_cons, Bool.and_eq_true] at hp hq
      obtain ⟨i1, i2⟩ := ih t hl' hp.2 hq.2
      have hc := (isDig_iff c).1 hp.1
      have hd := (isDig_iff d).1 hq.1
      have b1 := dvl_lt r hp.2
      have b2 := dvl_lt t hq.2
      rw [dvl_cons, dvl_cons, ← hl']
      rw [← hl'] at b2
      have hcd : (c < d) ↔ c.toNat < d.toNat := UInt8.lt_iff_toNat_lt
      have hce : (c = d) ↔ c.toNat = d.toNat := ⟨fun h => by rw [h], fun h => UInt8.toNat_inj.1 h⟩
      have hbl : Op.bytesLess (c :: r) (d :: t) = (decide (c < d) || (c == d && Op.bytesLess r t)) := rfl
      rw [hbl]
      generalize hC : c.toNat - 48 = C at *
      generalize hD : d.toNat - 48 = D at *
      generalize 10 ^ r.length = T at *
      rcases (show C < D ∨ D < C ∨ C = D by omega) with h | h | h
      · have hlt : c < d := hcd.2 (by omega)
        have hne : ¬ c = d := fun e => by have := hce.1 e; omega
        have : T * C + T ≤ T * D := by rw [← Nat.mul_succ]; exact Nat.mul_le_mul_left _ h
        constructor
        · simp [hlt]; omega
        · simp [hne]; omega
      · have hlt : ¬ c < d := fun e => by have := hcd.1 e; omega
        have hne : ¬ c = d := fun e => by have := hce.1 e; omega
        have : T * D + T ≤ T * C := by rw [← Nat.mul_succ]; exact Nat.mul_le_mul_left _ h
        constructor
        · simp [hlt, hne]; omega
        · simp [hne]; omega
      · have hlt : ¬ c < d := fun e => by have := hcd.1 e; omega
        have heq : c = d := hce.2 (by omega)
        subst h
        subst heq
        constructor
        · simp [hlt, i1]
        · simp [i2]

theorem cmpS_val (p q : List UInt8) (hl : p.length = q.length) (hp : p.all isDig = true) (hq : q.all isDig = true) : cmpS p q = cmpI (dvl p) (dvl q) := by
  obtain ⟨h1, h2⟩ := less_val p q hl hp hq
  unfold cmpS
  rcases (show dvl p < dvl q ∨ dvl q < dvl p ∨ dvl p = dvl q by omega) with h | h | h
  · rw [if_pos (h1.2 h), cmp_less h]
  · have a : ¬ Op.bytesLess p q = true := fun e => by have := h1.1 e; omega
    have b : ¬ (p == q) = true := fun e => by have := h2.1 (by simpa using e); omega
    rw [if_neg a, if_neg b, cmp_more h]
  · have a : ¬ Op.bytesLess p q = true := fun e => by have := h1.1 e; omega
    have b : (p == q) = true := by simpa using h2.2 h
    rw [if_neg a, if_pos b, cmp_eq h]

theorem cmpT_val {p q : List UInt8} (hp : canon p) (hq : canon q) : cmpT p q = cmpI (dvl p) (dvl q) := by
  unfold cmpT
  by_cases h1 : p.length < q.length
  · rw [if_pos h1, cmp_less (len_lt hp hq h1)]
  · by_cases h2 : q.length < p.length
    · rw [if_neg h1, if_pos h2, cmp_more (len_lt hq hp h2)]
    · rw [if_neg h1, if_neg h2]
      exact cmpS_val p q (by omega) (canon_dig hp) (canon_dig hq)

theorem formed_canon {l : List UInt8} (h : formed l = true) : canon (body l) := by
  unfold formed at h
  simp only [Bool.or_eq_true] at h
  rcases h with h | h
  · have : l = [48] := by simpa using h
    subst this; exact Or.inl rfl
  · exact Or.inr h

theorem formed_neg {l : List UInt8} (h : formed l = true) (hn : neg l = true) : plainB (body l) = true := by
  unfold formed at h
  simp only [Bool.or_eq_true] at h
  rcases h with h | h
  · have : l = [48] := by simpa using h
    subst this; exact absurd hn (by decide)
  · exact h

def ival (l : List UInt8) : Int := if neg l then -(dvl (body l) : Int) else (dvl (body l) : Int)

theorem cmpI_swap (a b : Int) : cmpI b a = -cmpI a b := by
  unfold cmpI
  rcases (show a < b ∨ b < a ∨ a = b by omega) with h | h | h
  · rw [if_neg (show ¬ b < a by omega), if_pos h, if_pos h]; rfl
  · rw [if_pos h, if_neg (show ¬ a < b by omega), if_pos h]
  · subst h; simp

theorem order_val {a b : List UInt8} (ha : formed a = true) (hb : formed b = true) :
    ordI (neg a) (neg b) (cmpI (val 10 (trimN (digs (body a)))) (val 10 (trimN (digs (body b))))) = cmpN a b := by
  rw [val_trim, val_trim]
  show ordI (neg a) (neg b) (cmpI (dvl (body a)) (dvl (body b))) = cmpN a b
  unfold cmpN
  rw [ha, hb]
  cases neg a <;> cases neg b
  · simp only [ordI]; rw [cmpT_val (formed_canon ha) (formed_canon hb)]; rfl
  · rfl
  · rfl
  · simp only [ordI]; rw [cmpT_val (formed_canon hb) (formed_canon ha), cmpI_swap]; simp

theorem cmpN_val {a b : List UInt8} (ha : formed a = true) (hb : formed b = true) : cmpN a b = cmpI (ival a) (ival b) := by
  rw [← order_val ha hb, val_trim, val_trim]
  show ordI (neg a) (neg b) (cmpI (dvl (body a)) (dvl (body b))) = _
  unfold ival
  cases hna : neg a <;> cases hnb : neg b
  · rfl
  · have := plain_pos (formed_neg hb hnb)
    simp only [ordI]
    unfold cmpI
    rw [if_neg (by simp <;> omega), if_pos (by simp <;> omega)]
  · have := plain_pos (formed_neg ha hna)
    simp only [ordI]
    unfold cmpI
    rw [if_pos (by simp <;> omega)]
  · simp only [ordI]
    rw [← cmpI_swap]
    unfold cmpI
    simp

theorem cmpS_bd (a b : List UInt8) : -1 ≤ cmpS a b ∧ cmpS a b ≤ 1 := by
  unfold cmpS; split <;> (try split) <;> omega
theorem cmpT_bd (a b : List UInt8) : -1 ≤ cmpT a b ∧ cmpT a b ≤ 1 := by
  have := cmpS_bd a b
  unfold cmpT; split <;> (try split) <;> omega
theorem cmpN_bd (a b : List UInt8) : -1 ≤ cmpN a b ∧ cmpN a b ≤ 1 := by
  have := cmpT_bd (body a) (body b)
  have := cmpT_bd (body b) (body a)
  unfold cmpN
  split <;> (try split) <;> (try split) <;> omega
end Go.Proofs.YtcpnodkcnblkdaaGreatDoor.Pl

namespace Go.Proofs.YtcpnodkcnblkdaaGreatDoor
open Go.RowKit
set_option linter.unusedVariables false
set_option linter.unusedSimpArgs false

theorem Ord.rf {α : Type} {P : α → Prop} {c : α → α → Int} (h : Ord P c) {x : α} (hx : P x) : c x x = 0 := by
  have := h.sw x x hx hx; omega

theorem listC_ord {α : Type} {P : α → Prop} {c : α → α → Int} (h : Ord P c) : Ord (fun l : List α => ∀ x ∈ l, P x) (listC c) where
  bd := by
    intro xs
    induction xs with
    | nil => intro ys _ _; cases ys <;> simp [listC]
    | cons x xs ih =>
      intro ys hx hy
      cases ys with
      | nil => simp [listC]
      | cons y ys =>
        simp only [listC]
        split
        · exact ih ys (fun z hz => hx z (List.mem_cons_of_mem _ hz)) (fun z hz => hy z (List.mem_cons_of_mem _ hz))
        · exact h.bd x y (hx x (List.mem_cons_self ..)) (hy y (List.mem_cons_self ..))
  sw := by
    intro xs
    induction xs with
    | nil => intro ys _ _; cases ys <;> simp [listC]
    | cons x xs ih =>
      intro ys hx hy
      cases ys with
      | nil => simp [listC]
      | cons y ys =>
        have e := h.sw x y (hx x (List.mem_cons_self ..)) (hy y (List.mem_cons_self ..))
        simp only [listC]
        by_cases h0 : c x y = 0
        · rw [if_pos h0, if_pos (by omega)]
          exact ih ys (fun z hz => hx z (List.mem_cons_of_mem _ hz)) (fun z hz => hy z (List.mem_cons_of_mem _ hz))
        · rw [if_neg h0, if_neg (by omega)]; exact e
  zr := by
    intro xs
    induction xs with
    | nil => intro ys _ _ h0; cases ys with
      | nil => rfl
      | cons y ys => simp [listC] at h0
    | cons x xs ih =>
      intro ys hx hy h0
      cases ys with
      | nil => simp [listC] at h0
      | cons y ys =>
        simp only [listC] at h0
        by_cases h1 : c x y = 0
        · rw [if_pos h1] at h0
          rw [h.zr x y (hx x (List.mem_cons_self ..)) (hy y (List.mem_cons_self ..)) h1, ih ys (fun z hz => hx z (List.mem_cons_of_mem _ hz)) (fun z hz => hy z (List.mem_cons_of_mem _ hz)) h0]
        · rw [if_neg h1] at h0; exact absurd h0 h1
  tr := by
    intro xs
    induction xs with
    | nil => intro ys zs _ _ _ _ _; cases zs <;> simp [listC]
    | cons x xs ih =>
      intro ys zs hx hy hz h1 h2
      cases ys with
      | nil => simp [listC] at h1
      | cons y ys =>
        cases zs with
        | nil => simp [listC] at h2
        | cons z zs =>
          have px := hx x (List.mem_cons_self ..)
          have py := hy y (List.mem_cons_self ..)
          have pz := hz z (List.mem_cons_self ..)
          have tx := fun z hz => hx z (List.mem_cons_of_mem _ hz)
          have ty := fun z hz => hy z (List.mem_cons_of_mem _ hz)
          have tz := fun w hw => hz w (List.mem_cons_of_mem _ hw)
          simp only [listC] at h1 h2 ⊢
          by_cases a : c x y = 0
          · rw [if_pos a] at h1
            obtain rfl := h.zr x y px py a
            by_cases b : c x z = 0
            · rw [if_pos b] at h2 ⊢; exact ih ys zs tx ty tz h1 h2
            · rw [if_neg b] at h2 ⊢; exact h2
          · rw [if_neg a] at h1
            by_cases b : c y z = 0
            · obtain rfl := h.zr y z py pz b
              rw [if_neg a]; exact h1
            · rw [if_neg b] at h2
              have t := h.tr x y z px py pz h1 h2
              by_cases d : c x z = 0
              · obtain rfl := h.zr x z px pz d
                have := h.sw x y px py
                omega
              · rw [if_neg d]; exact t

def byteC (x y : UInt8) : Int := if x < y then -1 else if x = y then 0 else 1
theorem byteC_ord : Ord (fun _ : UInt8 => True) byteC := by
  have hl : ∀ x y : UInt8, x < y ↔ x.toNat < y.toNat := fun x y => UInt8.lt_iff_toNat_lt
  have he : ∀ x y : UInt8, x = y ↔ x.toNat = y.toNat := fun x y => UInt8.toNat_inj.symm
  refine ⟨?_, ?_, ?_, ?_⟩
  · intro x y _ _; unfold byteC; split <;> (try split) <;> omega
  · intro x y _ _; unfold byteC; simp only [hl, he]; repeat' split
    all_goals omega
  · intro x y _ _ h0; unfold byteC at h0; simp only [hl, he] at h0 ⊢; split at h0 <;> (try split at h0) <;> omega
  · intro x y z _ _ _ h1 h2; unfold byteC at *; simp only [hl, he] at *; repeat' split at h1
    all_goals repeat' split at h2
    all_goals repeat' split
    all_goals omega

theorem cmpS_list : ∀ a b : List UInt8, Pl.cmpS a b = listC byteC a b
  | [], [] => by simp [Pl.cmpS, Op.bytesLess, listC]
  | [], _ :: _ => by simp [Pl.cmpS, Op.bytesLess, listC]
  | _ :: _, [] => by simp [Pl.cmpS, Op.bytesLess, listC]
  | x :: xs, y :: ys => by
    have ih := cmpS_list xs ys
    simp only [listC]
    rw [← ih]
    by_cases h : x < y
    · have e : byteC x y = -1 := by unfold byteC; rw [if_pos h]
      rw [e, if_neg (by omega)]
      unfold Pl.cmpS
      rw [if_pos (by simp [Op.bytesLess, h])]
    · by_cases h2 : x = y
      · subst h2
        have e : byteC x x = 0 := by unfold byteC; rw [if_neg h, if_pos rfl]
        rw [e, if_pos rfl]
        unfold Pl.cmpS
        simp [Op.bytesLess, h]
      · have e : byteC x y = 1 := by unfold byteC; rw [if_neg h, if_neg h2]
        rw [e, if_neg (by omega)]
        unfold Pl.cmpS
        rw [if_neg (by simp [Op.bytesLess, h, h2]), if_neg (by simp [h2])]

theorem keyC_ord : Ord (fun _ : ByteArray => True) keyC := by
  have o := listC_ord byteC_ord
  have t : ∀ l : List UInt8, ∀ x ∈ l, True := fun _ _ _ => trivial
  refine ⟨fun x y _ _ => ?_, fun x y _ _ => ?_, fun x y _ _ => ?_, fun x y z _ _ _ => ?_⟩ <;> unfold keyC <;> simp only [cmpS_list]
  · exact o.bd _ _ (t _) (t _)
  · exact o.sw _ _ (t _) (t _)
  · intro h
    have := o.zr _ _ (t _) (t _) h
    rw [Lib.toList_data, Lib.toList_data] at this
    exact Pl.eq_of_toList this
  · exact o.tr _ _ _ (t _) (t _) (t _)

theorem formed_inj {a b : List UInt8} (ha : Pl.formed a = true) (hb : Pl.formed b = true) (h : Pl.cmpN a b = 0) : a = b := by
  have hs : ∀ p q : List UInt8, Pl.cmpS p q = 0 → p = q := fun p q h0 => by
    rw [cmpS_list] at h0
    exact (listC_ord byteC_ord).zr p q (fun _ _ => trivial) (fun _ _ => trivial) h0
  have ht : ∀ p q : List UInt8, Pl.cmpT p q = 0 → p = q := fun p q h0 => by
    unfold Pl.cmpT at h0
    split at h0
    · omega
    · split at h0
      · omega
      · exact hs p q h0
  have hbn : ∀ l : List UInt8, Pl.neg l = true → l = 45 :: Pl.body l := fun l h => by
    cases l with
    | nil => simp [Pl.neg] at h
    | cons c r =>
      have h2 : c.toNat = 45 := by simpa [Pl.neg] using h
      have h3 : c = 45 := UInt8.toNat_inj.1 h2
      unfold Pl.body; rw [if_pos h, h3]; rfl
  have hbp : ∀ l : List UInt8, Pl.neg l = false → l = Pl.body l := fun l h => by
    unfold Pl.body; rw [h]; rfl
  unfold Pl.cmpN at h
  rw [ha, hb] at h
  simp only [Bool.and_self, if_true] at h
  cases na : Pl.neg a with
  | true =>
    cases nb : Pl.neg b with
    | true =>
      rw [na, nb] at h
      simp only [if_true] at h
      rw [hbn a na, hbn b nb, ht _ _ h]
    | false => rw [na, nb] at h; simp at h
  | false =>
    cases nb : Pl.neg b with
    | true => rw [na, nb] at h; simp at h
    | false =>
      rw [na, nb] at h
      simp only [Bool.false_eq_true, if_false] at h
      rw [hbp a na, hbp b nb, ht _ _ h]

theorem numC_ord : Ord (fun a : ByteArray => Pl.formed a.data.toList = true) numC := by
  have e : ∀ a b : ByteArray, Pl.formed a.data.toList = true → Pl.formed b.data.toList = true → numC a b = Pl.cmpI (Pl.ival a.data.toList) (Pl.ival b.data.toList) := fun a b ha hb => Pl.cmpN_val ha hb
  refine ⟨fun x y hx hy => ?_, fun x y hx hy => ?_, fun x y hx hy h => ?_, fun x y z hx hy hz h1 h2 => ?_⟩
  · exact Pl.cmpN_bd _ _
  · rw [e _ _ hx hy, e _ _ hy hx]; exact Pl.cmpI_swap _ _
  · exact Pl.eq_of_toList (formed_inj hx hy h)
  · rw [e _ _ hx hy] at h1; rw [e _ _ hy hz] at h2; rw [e _ _ hx hz]
    unfold Pl.cmpI at *
    repeat' split at h1
    all_goals repeat' split at h2
    all_goals repeat' split
    all_goals omega

end Go.Proofs.YtcpnodkcnblkdaaGreatDoor

namespace Go.Proofs.YtcpnodkcnblkdaaGreatDoor
open Go.RowKit
set_option linter.unusedVariables false
set_option linter.unusedSimpArgs false

theorem Ord.pair {α β : Type} {P : α → Prop} {c : α → α → Int} (o : Ord P c) {Q : β → Prop} {d : β → β → Int} (p : Ord Q d) :
    Ord (fun x : α × β => P x.1 ∧ Q x.2) (fun x y => if c x.1 y.1 = 0 then d x.2 y.2 else c x.1 y.1) where
  bd := fun x y hx hy => by
    show -1 ≤ (if c x.1 y.1 = 0 then d x.2 y.2 else c x.1 y.1) ∧ (if c x.1 y.1 = 0 then d x.2 y.2 else c x.1 y.1) ≤ 1
    split
    · exact p.bd _ _ hx.2 hy.2
    · exact o.bd _ _ hx.1 hy.1
  sw := fun x y hx hy => by
    show (if c y.1 x.1 = 0 then d y.2 x.2 else c y.1 x.1) = -(if c x.1 y.1 = 0 then d x.2 y.2 else c x.1 y.1)
    have e := o.sw _ _ hx.1 hy.1
    by_cases h0 : c x.1 y.1 = 0
    · rw [if_pos h0, if_pos (by omega)]; exact p.sw _ _ hx.2 hy.2
    · rw [if_neg h0, if_neg (by omega)]; exact e
  zr := fun x y hx hy h => by
    have h' : (if c x.1 y.1 = 0 then d x.2 y.2 else c x.1 y.1) = 0 := h
    by_cases h0 : c x.1 y.1 = 0
    · rw [if_pos h0] at h'
      exact Prod.ext (o.zr _ _ hx.1 hy.1 h0) (p.zr _ _ hx.2 hy.2 h')
    · rw [if_neg h0] at h'; exact absurd h' h0
  tr := fun x y z hx hy hz h1 h2 => by
    have h1' : (if c x.1 y.1 = 0 then d x.2 y.2 else c x.1 y.1) ≤ 0 := h1
    have h2' : (if c y.1 z.1 = 0 then d y.2 z.2 else c y.1 z.1) ≤ 0 := h2
    show (if c x.1 z.1 = 0 then d x.2 z.2 else c x.1 z.1) ≤ 0
    by_cases a : c x.1 y.1 = 0
    · rw [if_pos a] at h1'
      have e := o.zr _ _ hx.1 hy.1 a
      rw [e]
      by_cases b : c y.1 z.1 = 0
      · rw [if_pos b] at h2' ⊢; exact p.tr _ _ _ hx.2 hy.2 hz.2 h1' h2'
      · rw [if_neg b] at h2' ⊢; exact h2'
    · rw [if_neg a] at h1'
      by_cases b : c y.1 z.1 = 0
      · have e := o.zr _ _ hy.1 hz.1 b
        rw [← e, if_neg a]; exact h1'
      · rw [if_neg b] at h2'
        have t := o.tr _ _ _ hx.1 hy.1 hz.1 h1' h2'
        by_cases e : c x.1 z.1 = 0
        · have e2 := o.zr _ _ hx.1 hz.1 e
          have := o.sw _ _ hx.1 hy.1
          rw [e2] at this
          rw [e2] at h1' a
          omega
        · rw [if_neg e]; exact t

theorem ord_one : Ord (fun _ : Unit => True) (fun _ _ => 0) := ⟨fun _ _ _ _ => by omega, fun _ _ _ _ => by omega, fun _ _ _ _ _ => rfl, fun _ _ _ _ _ _ _ _ => by omega⟩

theorem ord_kind {α : Type} {P : α → Prop} {f : α → Int} {c d : α → α → Int} (hc : ∀ x y, c x y = if f x < f y then -1 else if f y < f x then 1 else d x y)
    (o : ∀ k, Ord (fun x => P x ∧ f x = k) d) : Ord P c where
  bd := fun x y hx hy => by
    rw [hc]
    split
    · omega
    · split
      · omega
      · exact (o (f x)).bd x y ⟨hx, rfl⟩ ⟨hy, by omega⟩
  sw := fun x y hx hy => by
    rw [hc, hc]
    by_cases a : f x < f y
    · rw [if_neg (by omega), if_pos a, if_pos a]; rfl
    · by_cases b : f y < f x
      · rw [if_pos b, if_neg a, if_pos b]
      · rw [if_neg b, if_neg a, if_neg a, if_neg b]; exact (o (f x)).sw x y ⟨hx, rfl⟩ ⟨hy, by omega⟩
  zr := fun x y hx hy h => by
    rw [hc] at h
    by_cases a : f x < f y
    · rw [if_pos a] at h; omega
    · by_cases b : f y < f x
      · rw [if_neg a, if_pos b] at h; omega
      · rw [if_neg a, if_neg b] at h; exact (o (f x)).zr x y ⟨hx, rfl⟩ ⟨hy, by omega⟩ h
  tr := fun x y z hx hy hz h1 h2 => by
    rw [hc] at h1 h2 ⊢
    by_cases a : f y < f x
    · rw [if_neg (by omega), if_pos a] at h1; omega
    · by_cases b : f z < f y
      · rw [if_neg (by omega), if_pos b] at h2; omega
      · by_cases e : f x < f z
        · rw [if_pos e]; omega
        · rw [if_neg (by omega), if_neg a] at h1
          rw [if_neg (by omega), if_neg b] at h2
          rw [if_neg e, if_neg (by omega)]
          exact (o (f x)).tr x y z ⟨hx, rfl⟩ ⟨hy, by omega⟩ ⟨hz, by omega⟩ h1 h2

def cmpI' (h : Nat) (A B : VT) : Int := if A.kind = 3 then numC A.num B.num else if A.kind = 4 then keyC A.text B.text else if A.kind = 5 then listC (cmpH h) A.items B.items else if A.kind = 6 then (if listC keyC A.keys B.keys = 0 then listC (cmpH h) A.items B.items else listC keyC A.keys B.keys) else 0

theorem cmpH_kind (h : Nat) (o : Ord (fun T => formN h T = true) (cmpH h)) (k : Int) : Ord (fun T : VT => formN (h + 1) T = true ∧ T.kind = k) (cmpI' h) := by
  by_cases k3 : k = 3
  · subst k3
    refine numC_ord.map (fun n => .mk 3 n .empty [] []) (fun x hx => ?_) (fun n m _ _ => rfl)
    rcases form_open hx.1 with (rfl | rfl | rfl) | ⟨n, rfl, hn⟩ | ⟨n, rfl, _⟩ | ⟨i, rfl, _⟩ | ⟨i, ks, rfl, _⟩
    · exact absurd hx.2 (by simp [VT.kind])
    · exact absurd hx.2 (by simp [VT.kind])
    · exact absurd hx.2 (by simp [VT.kind])
    · exact ⟨n, rfl, hn⟩
    · exact absurd hx.2 (by simp [VT.kind])
    · exact absurd hx.2 (by simp [VT.kind])
    · exact absurd hx.2 (by simp [VT.kind])
  by_cases k4 : k = 4
  · subst k4
    refine keyC_ord.map (fun n => .mk 4 .empty n [] []) (fun x hx => ?_) (fun n m _ _ => rfl)
    rcases form_open hx.1 with (rfl | rfl | rfl) | ⟨n, rfl, hn⟩ | ⟨n, rfl, _⟩ | ⟨i, rfl, _⟩ | ⟨i, ks, rfl, _⟩
    · exact absurd hx.2 (by simp [VT.kind])
    · exact absurd hx.2 (by simp [VT.kind])
    · exact absurd hx.2 (by simp [VT.kind])
    · exact absurd hx.2 (by simp [VT.kind])
    · exact ⟨n, rfl, trivial⟩
    · exact absurd hx.2 (by simp [VT.kind])
    · exact absurd hx.2 (by simp [VT.kind])
  by_cases k5 : k = 5
  · subst k5
    refine (listC_ord o).map (fun n => .mk 5 .empty .empty n []) (fun x hx => ?_) (fun n m _ _ => rfl)
    rcases form_open hx.1 with (rfl | rfl | rfl) | ⟨n, rfl, hn⟩ | ⟨n, rfl, _⟩ | ⟨i, rfl, hi⟩ | ⟨i, ks, rfl, _⟩
    · exact absurd hx.2 (by simp [VT.kind])
    · exact absurd hx.2 (by simp [VT.kind])
    · exact absurd hx.2 (by simp [VT.kind])
    · exact absurd hx.2 (by simp [VT.kind])
    · exact absurd hx.2 (by simp [VT.kind])
    · exact ⟨i, rfl, hi⟩
    · exact absurd hx.2 (by simp [VT.kind])
  by_cases k6 : k = 6
  · subst k6
    refine ((listC_ord keyC_ord).pair (listC_ord o)).map (fun n => .mk 6 .empty .empty n.2 n.1) (fun x hx => ?_) (fun n m _ _ => rfl)
    rcases form_open hx.1 with (rfl | rfl | rfl) | ⟨n, rfl, hn⟩ | ⟨n, rfl, _⟩ | ⟨i, rfl, hi⟩ | ⟨i, ks, rfl, _, _, _, hi⟩
    · exact absurd hx.2 (by simp [VT.kind])
    · exact absurd hx.2 (by simp [VT.kind])
    · exact absurd hx.2 (by simp [VT.kind])
    · exact absurd hx.2 (by simp [VT.kind])
    · exact absurd hx.2 (by simp [VT.kind])
    · exact absurd hx.2 (by simp [VT.kind])
    · exact ⟨(ks, i), rfl, fun _ _ => trivial, hi⟩
  · refine ord_one.map (fun _ => .mk k .empty .empty [] []) (fun x hx => ?_) (fun n m _ _ => ?_)
    · rcases form_open hx.1 with (rfl | rfl | rfl) | ⟨n, rfl, hn⟩ | ⟨n, rfl, _⟩ | ⟨i, rfl, hi⟩ | ⟨i, ks, rfl, _, _, _, hi⟩
      · exact ⟨(), by rw [← hx.2]; rfl, trivial⟩
      · exact ⟨(), by rw [← hx.2]; rfl, trivial⟩
      · exact ⟨(), by rw [← hx.2]; rfl, trivial⟩
      · exact absurd hx.2.symm k3
      · exact absurd hx.2.symm k4
      · exact absurd hx.2.symm k5
      · exact absurd hx.2.symm k6
    · have kk : (VT.mk k .empty .empty [] []).kind = k := rfl
      unfold cmpI'
      rw [if_neg (by rw [kk]; exact k3), if_neg (by rw [kk]; exact k4), if_neg (by rw [kk]; exact k5), if_neg (by rw [kk]; exact k6)]

theorem cmpH_ord : ∀ h, Ord (fun T => formN h T = true) (cmpH h)
  | 0 => by
    have no : ∀ x : VT, ¬ formN 0 x = true := fun x hx => by cases hx
    exact { bd := fun x y hx => absurd hx (no x), sw := fun x y hx => absurd hx (no x), zr := fun x y hx => absurd hx (no x), tr := fun x y z hx => absurd hx (no x) }
  | h + 1 => ord_kind (f := VT.kind) (d := cmpI' h) (fun x y => by
      show cmpV _ _ _ _ _ _ = _
      unfold cmpV cmpI'; rfl) (cmpH_kind h (cmpH_ord h))
end Go.Proofs.YtcpnodkcnblkdaaGreatDoor

namespace Go.Proofs.YtcpnodkcnblkdaaGreatDoor
open Go.RowKit
set_option linter.unusedVariables false
set_option linter.unusedSimpArgs false

theorem listC_step {α : Type} {c : α → α → Int} {xs ys : List α} {k : Nat} (h1 : k < xs.length) (h2 : k < ys.length) :
    listC c (xs.drop k) (ys.drop k) = if c xs[k] ys[k] = 0 then listC c (xs.drop (k + 1)) (ys.drop (k + 1)) else c xs[k] ys[k] := by
  rw [List.drop_eq_getElem_cons h1, List.drop_eq_getElem_cons h2]; rfl
theorem listC_more {α : Type} {c : α → α → Int} {xs ys : List α} {k : Nat} (h1 : k < xs.length) (h2 : ys.length ≤ k) : listC c (xs.drop k) (ys.drop k) = 1 := by
  rw [List.drop_eq_getElem_cons h1, List.drop_eq_nil_of_le h2]; rfl
theorem listC_less {α : Type} {c : α → α → Int} {xs ys : List α} {k : Nat} (h1 : xs.length ≤ k) (h2 : k < ys.length) : listC c (xs.drop k) (ys.drop k) = -1 := by
  rw [List.drop_eq_getElem_cons h2, List.drop_eq_nil_of_le h1]; rfl
theorem listC_even {α : Type} {c : α → α → Int} {xs ys : List α} {k : Nat} (h1 : xs.length ≤ k) (h2 : ys.length ≤ k) : listC c (xs.drop k) (ys.drop k) = 0 := by
  rw [List.drop_eq_nil_of_le h1, List.drop_eq_nil_of_le h2]; rfl
end Go.Proofs.YtcpnodkcnblkdaaGreatDoor

