import Derived.Test.YtaflpeajapdkdaaM5
import Derived.Laws.Cover4
namespace Go.Proofs.Ytaflpeajapdkdaa
open Go.RowKit
set_option linter.unusedVariables false
set_option linter.unusedSimpArgs false

/-- the piece at the head of a row of bytes: its rune, its width -/
def decL (l : List UInt8) : Nat × Nat :=
  let at' (k : Nat) : Nat := (l.getD k 0).toNat
  let cont (k : Nat) : Bool := decide (k < l.length) && at' k / 64 == 2
  let b0 := at' 0
  if b0 < 0x80 then (b0, 1)
  else if b0 / 32 == 6 && cont 1 then
    let c := (b0 % 32) * 64 + at' 1 % 64
    if c ≥ 0x80 then (c, 2) else (65533, 1)
  else if b0 / 16 == 14 && cont 1 && cont 2 then
    let c := (b0 % 16) * 4096 + (at' 1 % 64) * 64 + at' 2 % 64
    if c ≥ 0x800 && Utf8.valid c then (c, 3) else (65533, 1)
  else if b0 / 8 == 30 && cont 1 && cont 2 && cont 3 then
    let c := (b0 % 8) * 262144 + (at' 1 % 64) * 4096 + (at' 2 % 64) * 64 + at' 3 % 64
    if c ≥ 0x10000 && Utf8.valid c then (c, 4) else (65533, 1)
  else (65533, 1)

theorem get_drop (s : ByteArray) (p k : Nat) : s.get! (p + k) = (s.data.toList.drop p).getD k 0 := by
  rw [List.getD_eq_getElem?_getD, List.getElem?_drop]
  obtain ⟨d⟩ := s
  show d[p + k]! = _
  by_cases h : p + k < d.size
  · rw [getElem!_pos d (p + k) h, Array.getElem?_toList, Array.getElem?_eq_getElem h]; rfl
  · rw [getElem!_neg d (p + k) h, Array.getElem?_toList, Array.getElem?_eq_none (show d.size ≤ p + k by omega)]; rfl
theorem lt_drop (s : ByteArray) (p k : Nat) (hp : p ≤ s.size) : decide (p + k < s.size) = decide (k < (s.data.toList.drop p).length) := by
  have e : (s.data.toList.drop p).length = s.size - p := by simp
  rw [e]
  by_cases h : p + k < s.size
  · rw [decide_eq_true h, decide_eq_true (by omega)]
  · rw [decide_eq_false h, decide_eq_false (by omega)]

theorem decode_eq (s : ByteArray) (p : Nat) (hp : p ≤ s.size) : Utf8.decode s p = decL (s.data.toList.drop p) := by
  unfold Utf8.decode decL
  simp only [get_drop, lt_drop s p _ hp, Utf8.runeError]

/-- a rune's encoding -/
def enc (n : Nat) : List UInt8 :=
  if n < 0x80 then [UInt8.ofNat n]
  else if n < 0x800 then [UInt8.ofNat (0xC0 + n / 64), UInt8.ofNat (0x80 + n % 64)]
  else if n < 0x10000 then [UInt8.ofNat (0xE0 + n / 4096), UInt8.ofNat (0x80 + n / 64 % 64), UInt8.ofNat (0x80 + n % 64)]
  else [UInt8.ofNat (0xF0 + n / 262144), UInt8.ofNat (0x80 + n / 4096 % 64), UInt8.ofNat (0x80 + n / 64 % 64), UInt8.ofNat (0x80 + n % 64)]

theorem valid_rn (r : Int) : Utf8.valid r = Lib.validRune r := by
  unfold Utf8.valid Lib.validRune
  by_cases h : (0 ≤ r ∧ r < 0xD800) ∨ (0xDFFF < r ∧ r ≤ 0x10FFFF)
  · rw [decide_eq_true h]
    simp only [Bool.or_eq_true, Bool.and_eq_true, decide_eq_true_eq]
    omega
  · rw [decide_eq_false h]
    simp only [Bool.or_eq_false_iff, Bool.and_eq_false_iff, decide_eq_false_iff_not]
    omega

theorem encode_enc (r : Int) : (Utf8.encode r).data.toList = enc (rn r) := by
  unfold Utf8.encode enc rn
  rw [valid_rn]
  simp only [Utf8.runeError]
  split
  · split <;> try rfl
    split <;> try rfl
    split <;> rfl
  · rfl

theorem ofNat_small {n : Nat} (h : n < 256) : (UInt8.ofNat n).toNat = n := by rw [UInt8.toNat_ofNat']; omega

/-- a number that is a rune -/
def isR (n : Nat) : Prop := n < 55296 ∨ (57344 ≤ n ∧ n ≤ 1114111)
theorem valid_of {n : Nat} (h : isR n) : Utf8.valid (n : Int) = true := by
  unfold isR at h
  unfold Utf8.valid
  simp only [Bool.or_eq_true, Bool.and_eq_true, decide_eq_true_eq]
  omega
theorem rn_isR (r : Int) : isR (rn r) := by
  have := rn_lt r
  unfold isR
  omega

theorem dec1 {b0 : UInt8} {n : Nat} (post : List UInt8) (e0 : b0.toNat = n) (h : n < 0x80) : decL (b0 :: post) = (n, 1) := by
  simp [decL, e0, h]
theorem dec2 {b0 b1 : UInt8} {n : Nat} (post : List UInt8) (e0 : b0.toNat = 0xC0 + n / 64) (e1 : b1.toNat = 0x80 + n % 64) (h1 : 0x80 ≤ n) (h2 : n < 0x800) : decL (b0 :: b1 :: post) = (n, 2) := by
  have c0 : ¬ (0xC0 + n / 64 < 0x80) := by omega
  have c1 : (0xC0 + n / 64) / 32 = 6 := by omega
  have c2 : (0x80 + n % 64) / 64 = 2 := by omega
  have c3 : (0xC0 + n / 64) % 32 * 64 + (0x80 + n % 64) % 64 = n := by omega
  simp only [decL, List.getD_cons_zero, List.getD_cons_succ, e0, e1, if_neg c0, c1, c2, c3, List.length_cons]
  simp [h1]
theorem dec3 {b0 b1 b2 : UInt8} {n : Nat} (post : List UInt8) (e0 : b0.toNat = 0xE0 + n / 4096) (e1 : b1.toNat = 0x80 + n / 64 % 64) (e2 : b2.toNat = 0x80 + n % 64) (h1 : 0x800 ≤ n) (h2 : n < 0x10000) (hv : Utf8.valid (n : Int) = true) : decL (b0 :: b1 :: b2 :: post) = (n, 3) := by
  have c0 : ¬ (0xE0 + n / 4096 < 0x80) := by omega
  have c1 : ((0xE0 + n / 4096) / 32 == 6) = false := by rw [beq_eq_false_iff_ne]; omega
  have c2 : (0xE0 + n / 4096) / 16 = 14 := by omega
  have c3 : (0x80 + n / 64 % 64) / 64 = 2 := by omega
  have c4 : (0x80 + n % 64) / 64 = 2 := by omega
  have c5 : (0xE0 + n / 4096) % 16 * 4096 + (0x80 + n / 64 % 64) % 64 * 64 + (0x80 + n % 64) % 64 = n := by omega
  simp only [decL, List.getD_cons_zero, List.getD_cons_succ, e0, e1, e2, if_neg c0, c1, c2, c3, c4, c5, List.length_cons, Bool.false_and]
  simp [h1, hv]
theorem dec4 {b0 b1 b2 b3 : UInt8} {n : Nat} (post : List UInt8) (e0 : b0.toNat = 0xF0 + n / 262144) (e1 : b1.toNat = 0x80 + n / 4096 % 64) (e2 : b2.toNat = 0x80 + n / 64 % 64) (e3 : b3.toNat = 0x80 + n % 64) (h1 : 0x10000 ≤ n) (h2 : n ≤ 1114111) (hv : Utf8.valid (n : Int) = true) : decL (b0 :: b1 :: b2 :: b3 :: post) = (n, 4) := by
  have c0 : ¬ (0xF0 + n / 262144 < 0x80) := by omega
  have c1 : ((0xF0 + n / 262144) / 32 == 6) = false := by rw [beq_eq_false_iff_ne]; omega
  have c2 : ((0xF0 + n / 262144) / 16 == 14) = false := by rw [beq_eq_false_iff_ne]; omega
  have c3 : (0xF0 + n / 262144) / 8 = 30 := by omega
  have c4 : (0x80 + n / 4096 % 64) / 64 = 2 := by omega
  have c5 : (0x80 + n / 64 % 64) / 64 = 2 := by omega
  have c6 : (0x80 + n % 64) / 64 = 2 := by omega
  have c7 : (0xF0 + n / 262144) % 8 * 262144 + (0x80 + n / 4096 % 64) % 64 * 4096 + (0x80 + n / 64 % 64) % 64 * 64 + (0x80 + n % 64) % 64 = n := by omega
  simp only [decL, List.getD_cons_zero, List.getD_cons_succ, e0, e1, e2, e3, if_neg c0, c1, c2, c3, c4, c5, c6, c7, List.length_cons, Bool.false_and]
  simp [h1, hv]

theorem dec_enc (n : Nat) (h : isR n) (post : List UInt8) : decL (enc n ++ post) = (n, (enc n).length) := by
  have hv := valid_of h
  unfold isR at h
  unfold enc
  by_cases h1 : n < 0x80
  · rw [if_pos h1]
    exact dec1 post (ofNat_small (by omega)) h1
  · rw [if_neg h1]
    by_cases h2 : n < 0x800
    · rw [if_pos h2]
      exact dec2 post (ofNat_small (by omega)) (ofNat_small (by omega)) (by omega) h2
    · rw [if_neg h2]
      by_cases h3 : n < 0x10000
      · rw [if_pos h3]
        exact dec3 post (ofNat_small (by omega)) (ofNat_small (by omega)) (ofNat_small (by omega)) (by omega) h3 hv
      · rw [if_neg h3]
        exact dec4 post (ofNat_small (by omega)) (ofNat_small (by omega)) (ofNat_small (by omega)) (ofNat_small (by omega)) (by omega) (by omega) hv
theorem enc_len (n : Nat) : 1 ≤ (enc n).length ∧ (enc n).length ≤ 4 := by
  unfold enc
  split
  · simp
  · split
    · simp
    · split <;> simp
end Go.Proofs.Ytaflpeajapdkdaa
