import Derived.Test.YtdehejadiofomaaDoorV10
import Derived.Test.YtdehejadiofomaaDoorV6
namespace Go.Proofs.YtdehejadiofomaaDoor
open Go.RowKit
set_option linter.unusedVariables false
set_option linter.unusedSimpArgs false

theorem below_grown {w w1 : World} (hb : Below w.heap.size w w1) (r : Option Nat) : w.grownBy w1 r := ⟨hb.os, hb.tape, hb.output, hb.size, fun i hi _ => hb.block i hi⟩
theorem own_below {w w1 : World} {B e size n : Nat} {v : Value} {xs : List Value} (h : w.ownsRow B e size v n xs) (hb : Below w.heap.size w w1) : w1.ownsRow B e size v n xs := by
  refine ⟨h.1, ?_⟩
  rcases h.2 with h0 | ⟨g, cap, cur, hv, hb', hg, rest⟩
  · exact .inl h0
  · refine .inr ⟨g, cap, cur, hv, hb', ?_, rest⟩
    rw [hb.block g (Array.getElem?_eq_some_iff.1 hg).1]
    exact hg

/-- the sign of a short escape -/
def sgn (n : Nat) : Option UInt8 := if n = 34 then some 34 else if n = 92 then some 92 else if n = 8 then some 98 else if n = 12 then some 102 else if n = 10 then some 110 else if n = 13 then some 114 else if n = 9 then some 116 else none
/-- a rune as Quote writes it -/
def qd (n : Nat) : List UInt8 := match sgn n with
  | some c => [92, c]
  | none => if n < 32 ∨ n = 127 then unit n else enc n
theorem qd_len (n : Nat) : 1 ≤ (qd n).length ∧ (qd n).length ≤ 6 := by
  unfold qd
  split
  · simp
  · split
    · have e : (unit n).length = 6 := rfl
      omega
    · have := enc_len n; omega

theorem encodeRune_enc (n : Nat) (h : isR n) : Lib.encodeRune (n : Int) = enc n := by
  unfold isR at h
  unfold Lib.encodeRune enc
  by_cases h1 : n < 0x80
  · rw [Lib.encodeRuneZ_one (by omega) (by omega), if_pos h1]; simp
  · rw [if_neg h1]
    by_cases h2 : n < 0x800
    · rw [Lib.encodeRuneZ_two (by omega) (by omega), if_pos h2]
      simp only [List.map_cons, List.map_nil]
      rw [show (192 + (n : Int) / 64).toNat = 0xC0 + n / 64 by omega, show (128 + (n : Int) % 64).toNat = 0x80 + n % 64 by omega]
    · rw [if_neg h2]
      unfold Lib.encodeRuneZ
      rw [if_neg (by omega), if_neg (by omega)]
      by_cases h3 : n < 0x10000
      · rw [if_pos (by omega), if_pos h3]
        simp only [List.map_cons, List.map_nil]
        rw [show (224 + (n : Int) / 4096).toNat = 0xE0 + n / 4096 by omega, show (128 + (n : Int) / 64 % 64).toNat = 0x80 + n / 64 % 64 by omega, show (128 + (n : Int) % 64).toNat = 0x80 + n % 64 by omega]
      · rw [if_neg (by omega), if_pos (by omega), if_neg h3]
        simp only [List.map_cons, List.map_nil]
        rw [show (240 + (n : Int) / 262144).toNat = 0xF0 + n / 262144 by omega, show (128 + (n : Int) / 4096 % 64).toNat = 0x80 + n / 4096 % 64 by omega, show (128 + (n : Int) / 64 % 64).toNat = 0x80 + n / 64 % 64 by omega, show (128 + (n : Int) % 64).toNat = 0x80 + n % 64 by omega]
end Go.Proofs.YtdehejadiofomaaDoor
