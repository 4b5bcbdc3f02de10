import Derived.Test.YtbaknnpjbokilaaM35
import Derived.Test.YtbaknnpjbokilaaM36
namespace Go.Proofs.Ytbaknnpjbokilaa
open Go.RowKit Go.Maps Go.Sort Go.Shelf
set_option linter.unusedVariables false
set_option linter.unusedSimpArgs false

/-- the fields of two objects as their keys rise: of the first alone, or of the second -/
def uniF (ka kb : Nat → ByteArray) (K L : Nat) : Nat → Nat → Nat → List (Nat ⊕ Nat)
  | 0, _, _ => []
  | f + 1, i, j => if i < K ∨ j < L then
      (if nearI (K - i) (L - j) (ka i) (kb j) = -1 then .inl i :: uniF ka kb K L f (i + 1) j
       else if nearI (K - i) (L - j) (ka i) (kb j) = 1 then .inr j :: uniF ka kb K L f i (j + 1)
       else .inr j :: uniF ka kb K L f (i + 1) (j + 1)) else []
theorem cmpS_three (x y : List UInt8) : Pl.cmpS x y = -1 ∨ Pl.cmpS x y = 0 ∨ Pl.cmpS x y = 1 := by
  unfold Pl.cmpS
  split
  · exact .inl rfl
  · split
    · exact .inr (.inl rfl)
    · exact .inr (.inr rfl)
theorem near_cases {K L i j : Nat} {x y : ByteArray} (h : i < K ∨ j < L) : (nearI (K - i) (L - j) x y = -1 ∧ i < K) ∨ (nearI (K - i) (L - j) x y = 1 ∧ j < L) ∨ (nearI (K - i) (L - j) x y = 0 ∧ i < K ∧ j < L) := by
  unfold nearI
  by_cases h1 : K - i = 0
  · rw [if_pos h1]
    exact .inr (.inl ⟨rfl, by omega⟩)
  · rw [if_neg h1]
    by_cases h2 : L - j = 0
    · rw [if_pos h2]
      exact .inl ⟨rfl, by omega⟩
    · rw [if_neg h2]
      rcases cmpS_three x.toList y.toList with e | e | e
      · exact .inl ⟨e, by omega⟩
      · exact .inr (.inr ⟨e, by omega, by omega⟩)
      · exact .inr (.inl ⟨e, by omega⟩)
/-- what stands there -/
def InU (K L : Nat) : Nat ⊕ Nat → Prop
  | .inl i => i < K
  | .inr j => j < L
theorem uni_in {ka kb : Nat → ByteArray} {K L : Nat} : ∀ (f i j : Nat), ∀ x ∈ uniF ka kb K L f i j, InU K L x
  | 0, _, _, x, hx => by cases hx
  | f + 1, i, j, x, hx => by
    rw [uniF] at hx
    by_cases h : i < K ∨ j < L
    · rw [if_pos h] at hx
      rcases near_cases (x := ka i) (y := kb j) h with ⟨e, h1⟩ | ⟨e, h1⟩ | ⟨e, h1, h2⟩
      · rw [if_pos e] at hx
        rcases List.mem_cons.1 hx with rfl | hx
        · exact h1
        · exact uni_in f _ _ x hx
      · rw [if_neg (by rw [e]; decide), if_pos e] at hx
        rcases List.mem_cons.1 hx with rfl | hx
        · exact h1
        · exact uni_in f _ _ x hx
      · rw [if_neg (by rw [e]; decide), if_neg (by rw [e]; decide)] at hx
        rcases List.mem_cons.1 hx with rfl | hx
        · exact h2
        · exact uni_in f _ _ x hx
    · rw [if_neg h] at hx
      cases hx
theorem uni_len {ka kb : Nat → ByteArray} {K L : Nat} : ∀ (f i j : Nat), i ≤ K → j ≤ L → (uniF ka kb K L f i j).length ≤ (K - i) + (L - j)
  | 0, _, _, _, _ => Nat.zero_le _
  | f + 1, i, j, hi, hj => by
    rw [uniF]
    by_cases h : i < K ∨ j < L
    · rw [if_pos h]
      rcases near_cases (x := ka i) (y := kb j) h with ⟨e, h1⟩ | ⟨e, h1⟩ | ⟨e, h1, h2⟩
      · rw [if_pos e, List.length_cons]
        have := uni_len (ka := ka) (kb := kb) f (i + 1) j h1 hj
        omega
      · rw [if_neg (by rw [e]; decide), if_pos e, List.length_cons]
        have := uni_len (ka := ka) (kb := kb) f i (j + 1) hi h1
        omega
      · rw [if_neg (by rw [e]; decide), if_neg (by rw [e]; decide), List.length_cons]
        have := uni_len (ka := ka) (kb := kb) f (i + 1) (j + 1) h1 h2
        omega
    · rw [if_neg h]
      exact Nat.zero_le _
def kyU (ka kb : Nat → ByteArray) : Nat ⊕ Nat → ByteArray
  | .inl i => ka i
  | .inr j => kb j
def cU (ca cb : Nat → Fin 5 → Value) : Nat ⊕ Nat → Fin 5 → Value
  | .inl i => ca i
  | .inr j => cb j
/-- what united's iterator reads -/
structure UnS (W : World) (n₀ A1 A2 A3 K L : Nat) (koa : Option Addr) (kca : Nat) (ioa : Option Addr) (ica : Nat) (kob : Option Addr) (kcb : Nat) (iob : Option Addr) (icb : Nat) (ka kb : Nat → ByteArray) (ca cb : Nat → Fin 5 → Value) : Prop where
  a3 : W.cell? ⟨A1, 3, none⟩ = some (.slice ioa K ica)
  a4 : W.cell? ⟨A1, 4, none⟩ = some (.slice koa K kca)
  b3 : W.cell? ⟨A2, 3, none⟩ = some (.slice iob L icb)
  b4 : W.cell? ⟨A2, 4, none⟩ = some (.slice kob L kcb)
  fn : W.cell? ⟨A3, 0, none⟩ = some (.func (.func 29) #[] #[])
  ia : ∀ i, i < K → ∃ b off, ioa = some ⟨b, off, none⟩ ∧ b < n₀ ∧ W.cell? ⟨b, off + i * 5, none⟩ = some (ca i 0) ∧ W.cell? ⟨b, off + i * 5 + 1, none⟩ = some (ca i 1) ∧ W.cell? ⟨b, off + i * 5 + 2, none⟩ = some (ca i 2) ∧ W.cell? ⟨b, off + i * 5 + 3, none⟩ = some (ca i 3) ∧ W.cell? ⟨b, off + i * 5 + 4, none⟩ = some (ca i 4)
  ib : ∀ i, i < L → ∃ b off, iob = some ⟨b, off, none⟩ ∧ b < n₀ ∧ W.cell? ⟨b, off + i * 5, none⟩ = some (cb i 0) ∧ W.cell? ⟨b, off + i * 5 + 1, none⟩ = some (cb i 1) ∧ W.cell? ⟨b, off + i * 5 + 2, none⟩ = some (cb i 2) ∧ W.cell? ⟨b, off + i * 5 + 3, none⟩ = some (cb i 3) ∧ W.cell? ⟨b, off + i * 5 + 4, none⟩ = some (cb i 4)
  ka : ∀ i, i < K → ∃ b off, koa = some ⟨b, off, none⟩ ∧ b < n₀ ∧ W.cell? ⟨b, off + i, none⟩ = some (.string (ka i))
  kb : ∀ i, i < L → ∃ b off, kob = some ⟨b, off, none⟩ ∧ b < n₀ ∧ W.cell? ⟨b, off + i, none⟩ = some (.string (kb i))
  lt : A1 < n₀ ∧ A2 < n₀ ∧ A3 < n₀
theorem UnS.keep {W W' : World} {n₀ A1 A2 A3 K L : Nat} {koa : Option Addr} {kca : Nat} {ioa : Option Addr} {ica : Nat} {kob : Option Addr} {kcb : Nat} {iob : Option Addr} {icb : Nat} {ka kb : Nat → ByteArray} {ca cb : Nat → Fin 5 → Value} (h : UnS W n₀ A1 A2 A3 K L koa kca ioa ica kob kcb iob icb ka kb ca cb) (hb : Below n₀ W W') : UnS W' n₀ A1 A2 A3 K L koa kca ioa ica kob kcb iob icb ka kb ca cb := by
  obtain ⟨l1, l2, l3⟩ := h.lt
  refine ⟨(hb.cell (p := ⟨_, _, _⟩) l1).trans h.a3, (hb.cell (p := ⟨_, _, _⟩) l1).trans h.a4, (hb.cell (p := ⟨_, _, _⟩) l2).trans h.b3, (hb.cell (p := ⟨_, _, _⟩) l2).trans h.b4, (hb.cell (p := ⟨_, _, _⟩) l3).trans h.fn, fun i hi => ?_, fun i hi => ?_, fun i hi => ?_, fun i hi => ?_, h.lt⟩
  · obtain ⟨b, off, e, hl, a0, a1, a2, a3, a4⟩ := h.ia i hi
    exact ⟨b, off, e, hl, (hb.cell (p := ⟨_, _, _⟩) hl).trans a0, (hb.cell (p := ⟨_, _, _⟩) hl).trans a1, (hb.cell (p := ⟨_, _, _⟩) hl).trans a2, (hb.cell (p := ⟨_, _, _⟩) hl).trans a3, (hb.cell (p := ⟨_, _, _⟩) hl).trans a4⟩
  · obtain ⟨b, off, e, hl, a0, a1, a2, a3, a4⟩ := h.ib i hi
    exact ⟨b, off, e, hl, (hb.cell (p := ⟨_, _, _⟩) hl).trans a0, (hb.cell (p := ⟨_, _, _⟩) hl).trans a1, (hb.cell (p := ⟨_, _, _⟩) hl).trans a2, (hb.cell (p := ⟨_, _, _⟩) hl).trans a3, (hb.cell (p := ⟨_, _, _⟩) hl).trans a4⟩
  · obtain ⟨b, off, e, hl, a0⟩ := h.ka i hi
    exact ⟨b, off, e, hl, (hb.cell (p := ⟨_, _, _⟩) hl).trans a0⟩
  · obtain ⟨b, off, e, hl, a0⟩ := h.kb i hi
    exact ⟨b, off, e, hl, (hb.cell (p := ⟨_, _, _⟩) hl).trans a0⟩
end Go.Proofs.Ytbaknnpjbokilaa
