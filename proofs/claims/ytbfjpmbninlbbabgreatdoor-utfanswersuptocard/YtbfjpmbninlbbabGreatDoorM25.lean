import Derived.Test.YtbfjpmbninlbbabGreatDoorM24
import Derived.Test.YtbfjpmbninlbbabGreatDoorM14
import Derived.Test.YtbfjpmbninlbbabGreatDoorM11
namespace Go.Proofs.YtbfjpmbninlbbabGreatDoor
open Go.RowKit
set_option linter.unusedVariables false
set_option linter.unusedSimpArgs false

/-- the rune of a short escape's letter -/
def shN (c : UInt8) : Option Nat := if c = 34 then some 34 else if c = 92 then some 92 else if c = 47 then some 47 else if c = 98 then some 8 else if c = 102 then some 12 else if c = 110 then some 10 else if c = 114 then some 13 else if c = 116 then some 9 else none
def shortL (l : List UInt8) : Option Nat := if l.getD 0 0 = 92 ∧ 2 ≤ l.length then shN (l.getD 1 0) else none
def numL (l : List UInt8) : Option Nat := if 6 ≤ l.length ∧ l.getD 0 0 = 92 ∧ l.getD 1 0 = 117 ∧ ((l.drop 2).take 4).all isHex = true then some (hexN ((l.drop 2).take 4)) else none
/-- rune, place, code -/
def escL (l : List UInt8) (k : Nat) : Nat × Nat × Nat :=
  match shortL (l.drop k) with
  | some r => (r, k + 2, 0)
  | none => match numL (l.drop k) with
    | none => (0, k, 23)
    | some n => if n < 55296 ∨ 57344 ≤ n then (n, k + 6, 0) else
      match numL (l.drop (k + 6)) with
      | none => (0, k, 24)
      | some m => if n < 56320 ∧ 56320 ≤ m ∧ m < 57344 then (65536 + (n - 55296) * 1024 + (m - 56320), k + 12, 0) else (0, k, 24)

def unqL (l : List UInt8) (p : Nat) (acc : List Nat) : List Nat × Nat × Nat :=
  if h : p < l.length then
    if (decL (l.drop p)).1 = 34 then (acc, p + 1, 0)
    else if (decL (l.drop p)).1 < 32 then ([], p, 22)
    else if strayL (l.drop p) = true then ([], p, 20)
    else if (decL (l.drop p)).1 = 92 then
      (if (escL l p).2.2 = 0 then (if p < (escL l p).2.1 then unqL l (escL l p).2.1 (acc ++ [(escL l p).1]) else ([], 0, 0)) else ([], (escL l p).2.1, (escL l p).2.2))
    else (if 0 < (decL (l.drop p)).2 then unqL l (p + (decL (l.drop p)).2) (acc ++ [(decL (l.drop p)).1]) else ([], 0, 0))
  else ([], l.length, 21)
termination_by l.length - p

theorem unqL_end {l : List UInt8} {p : Nat} (acc : List Nat) (h : ¬ p < l.length) : unqL l p acc = ([], l.length, 21) := by rw [unqL, dif_neg h]
theorem unqL_quote {l : List UInt8} {p : Nat} (acc : List Nat) (h : p < l.length) (h1 : (decL (l.drop p)).1 = 34) : unqL l p acc = (acc, p + 1, 0) := by rw [unqL, dif_pos h, if_pos h1]
theorem unqL_ctl {l : List UInt8} {p : Nat} (acc : List Nat) (h : p < l.length) (h1 : ¬ (decL (l.drop p)).1 = 34) (h2 : (decL (l.drop p)).1 < 32) : unqL l p acc = ([], p, 22) := by rw [unqL, dif_pos h, if_neg h1, if_pos h2]
theorem unqL_stray {l : List UInt8} {p : Nat} (acc : List Nat) (h : p < l.length) (h1 : ¬ (decL (l.drop p)).1 = 34) (h2 : ¬ (decL (l.drop p)).1 < 32) (h3 : strayL (l.drop p) = true) : unqL l p acc = ([], p, 20) := by rw [unqL, dif_pos h, if_neg h1, if_neg h2, if_pos h3]
theorem unqL_esc {l : List UInt8} {p : Nat} (acc : List Nat) (h : p < l.length) (h3 : strayL (l.drop p) = false) (h4 : (decL (l.drop p)).1 = 92) : unqL l p acc = (if (escL l p).2.2 = 0 then (if p < (escL l p).2.1 then unqL l (escL l p).2.1 (acc ++ [(escL l p).1]) else ([], 0, 0)) else ([], (escL l p).2.1, (escL l p).2.2)) := by
  rw [unqL, dif_pos h, if_neg (by omega), if_neg (by omega), if_neg (by rw [h3]; decide), if_pos h4]
theorem unqL_rune {l : List UInt8} {p : Nat} (acc : List Nat) (h : p < l.length) (h1 : ¬ (decL (l.drop p)).1 = 34) (h2 : ¬ (decL (l.drop p)).1 < 32) (h3 : strayL (l.drop p) = false) (h4 : ¬ (decL (l.drop p)).1 = 92) : unqL l p acc = unqL l (p + (decL (l.drop p)).2) (acc ++ [(decL (l.drop p)).1]) := by
  have := decL_pos (l.drop p)
  rw [unqL, dif_pos h, if_neg h1, if_neg h2, if_neg (by rw [h3]; decide), if_neg h4, if_pos (by omega)]

theorem hex_ascii {c : UInt8} (h : isHex c = true) : c.toNat < 128 := by
  rcases hex_cases h with h1 | h1
  · omega
  · have : c.toNat ≤ (c.toNat ||| 32) := Nat.left_le_or
    omega
theorem shN_ok {c : UInt8} {r : Nat} (h : shN c = some r) : c.toNat < 128 ∧ r < 128 ∧ c ≠ 117 := by
  unfold shN at h
  repeat' split at h
  all_goals first | cases h | skip
  all_goals (rename_i hc; subst hc; exact ⟨by decide, by decide, by decide⟩)

theorem getD_dropL (l : List UInt8) (k j : Nat) : (l.drop k).getD j 0 = l.getD (k + j) 0 := by simp [List.getD, List.getElem?_drop]
/-- the letters of an escape by number -/
theorem numL_ok {l : List UInt8} {k n : Nat} (h : numL (l.drop k) = some n) : k + 6 ≤ l.length ∧ n < 65536 ∧ (∀ j, k ≤ j → j < k + 6 → (l.getD j 0).toNat < 128) ∧ l.getD k 0 = 92 ∧ l.getD (k + 1) 0 = 117 := by
  unfold numL at h
  split at h
  · rename_i hc
    obtain ⟨h1, h2, h3, h4⟩ := hc
    rw [List.length_drop] at h1
    have hl : k + 6 ≤ l.length := by omega
    have e : n = hexN (((l.drop k).drop 2).take 4) := (Option.some.inj h).symm
    have hlen : (((l.drop k).drop 2).take 4).length = 4 := by simp; omega
    rw [getD_dropL] at h2 h3
    refine ⟨hl, ?_, ?_, h2, h3⟩
    · rw [e]; exact hexN_lt _ h4 4 (by omega)
    · intro j hj1 hj2
      by_cases a : j = k
      · subst a; rw [Nat.add_zero] at h2; rw [h2]; decide
      by_cases b : j = k + 1
      · subst b; rw [h3]; decide
      have hm := List.all_eq_true.1 h4 (l.getD j 0) (by
        have : l.getD j 0 = (((l.drop k).drop 2).take 4)[j - k - 2]'(by omega) := by
          simp [List.getElem_take, List.getElem_drop, List.getD]
          have e2 : k + (2 + (j - k - 2)) = j := by omega
          rw [List.getElem?_eq_getElem (by omega)]
          have e3 : k + 2 + (j - k - 2) = j := by omega
          simp [e2, e3]
        rw [this]; exact List.getElem_mem _)
      exact hex_ascii hm
  · cases h
theorem shortL_ok {l : List UInt8} {k r : Nat} (h : shortL (l.drop k) = some r) : k + 2 ≤ l.length ∧ r < 128 ∧ (∀ j, k ≤ j → j < k + 2 → (l.getD j 0).toNat < 128) ∧ l.getD k 0 = 92 ∧ shN (l.getD (k + 1) 0) = some r := by
  unfold shortL at h
  split at h
  · rename_i hc
    obtain ⟨h1, h2⟩ := hc
    rw [getD_dropL] at h1 h
    rw [List.length_drop] at h2
    have := shN_ok h
    refine ⟨by omega, this.2.1, ?_, h1, h⟩
    intro j hj1 hj2
    by_cases a : j = k
    · subst a; rw [Nat.add_zero] at h1; rw [h1]; decide
    · obtain rfl : j = k + 1 := by omega
      exact this.1
  · cases h
theorem escL_ok {l : List UInt8} {k : Nat} (h : (escL l k).2.2 = 0) : k < (escL l k).2.1 ∧ (escL l k).2.1 ≤ l.length ∧ isR (escL l k).1 ∧ ∀ j, k ≤ j → j < (escL l k).2.1 → (l.getD j 0).toNat < 128 := by
  unfold escL at h ⊢
  cases hs : shortL (l.drop k) with
  | some r =>
    rw [hs] at h
    obtain ⟨h1, h2, h3, _⟩ := shortL_ok hs
    exact ⟨by show k < k + 2; omega, h1, .inl (by show r < _; omega), h3⟩
  | none =>
    rw [hs] at h
    cases hn : numL (l.drop k) with
    | none => rw [hn] at h; simp at h
    | some n =>
      rw [hn] at h
      obtain ⟨h1, h2, h3, _⟩ := numL_ok hn
      simp only at h ⊢
      by_cases hc : n < 55296 ∨ 57344 ≤ n
      · rw [if_pos hc]
        exact ⟨by show k < k + 6; omega, h1, by show isR n; unfold isR; omega, h3⟩
      · rw [if_neg hc] at h ⊢
        cases hm : numL (l.drop (k + 6)) with
        | none => rw [hm] at h; simp at h
        | some m =>
          rw [hm] at h
          obtain ⟨g1, g2, g3, _⟩ := numL_ok hm
          simp only at h ⊢
          by_cases hd : n < 56320 ∧ 56320 ≤ m ∧ m < 57344
          · rw [if_pos hd]
            refine ⟨by show k < k + 12; omega, by show k + 12 ≤ _; omega, by show isR _; unfold isR; omega, fun j hj1 hj2 => ?_⟩
            have hj2' : j < k + 12 := hj2
            rcases Nat.lt_or_ge j (k + 6) with g | g
            · exact h3 j hj1 g
            · exact g3 j g (by omega)
          · rw [if_neg hd] at h; simp at h
theorem escL_code (l : List UInt8) (k : Nat) : ((escL l k).2.2 = 0) ∨ ((escL l k).2.2 = 23 ∧ (escL l k).1 = 0 ∧ (escL l k).2.1 = k) ∨ ((escL l k).2.2 = 24 ∧ (escL l k).1 = 0 ∧ (escL l k).2.1 = k) := by
  unfold escL
  repeat' split
  all_goals simp
theorem dec_asciiD {l : List UInt8} {k : Nat} (hk : k < l.length) (h : (l.getD k 0).toNat < 128) : decL (l.drop k) = ((l.getD k 0).toNat, 1) := by
  rw [List.drop_eq_getElem_cons hk]
  have e : l.getD k 0 = l[k] := by simp [List.getD, hk]
  rw [e] at h ⊢
  exact dec1 _ rfl h
end Go.Proofs.YtbfjpmbninlbbabGreatDoor
namespace Go.Proofs.YtbfjpmbninlbbabGreatDoor
open Go.RowKit
set_option linter.unusedVariables false
set_option linter.unusedSimpArgs false

/-- a digit's value, or -1 -/
def digI (c : UInt8) : Int := if isHex c = true then (hexd c : Int) else -1
set_option maxRecDepth 100000 in
theorem digI_tab (c : UInt8) : digI c = if 48 ≤ c.toNat ∧ c.toNat ≤ 57 then (c.toNat : Int) - 48 else if 97 ≤ c.toNat ∧ c.toNat ≤ 102 then (c.toNat : Int) - 97 + 10 else if 65 ≤ c.toNat ∧ c.toNat ≤ 70 then (c.toNat : Int) - 65 + 10 else -1 := by
  have : ∀ m : Fin 256, digI (UInt8.ofNat m.val) = if 48 ≤ m.val ∧ m.val ≤ 57 then (m.val : Int) - 48 else if 97 ≤ m.val ∧ m.val ≤ 102 then (m.val : Int) - 97 + 10 else if 65 ≤ m.val ∧ m.val ≤ 70 then (m.val : Int) - 65 + 10 else -1 := by decide
  have h := this ⟨c.toNat, c.toNat_lt⟩
  simp only [UInt8.ofNat_toNat] at h
  exact h

set_option maxRecDepth 100000 in
set_option maxHeartbeats 1600000 in
theorem w_rdigit (c : UInt8) (w : World) :
    Calls Tryz.prog 71 #[.int .u8 ((c.toNat : Nat) : Int)] w fun e w' => e = .returned (.int .i64 (digI c)) ∧ w' = w := by
  have ht := digI_tab c
  have hlt := c.toNat_lt
  obtain ⟨x, hx⟩ : ∃ x : Int, ((c.toNat : Nat) : Int) = x := ⟨_, rfl⟩
  have hx0 : 0 ≤ x := by omega
  have hx1 : x < 256 := by omega
  rw [hx] at ht ⊢
  have hcs : (¬ 48 ≤ x ∧ ¬ 97 ≤ x ∧ ¬ 65 ≤ x) ∨ (48 ≤ x ∧ x ≤ 57) ∨ (48 ≤ x ∧ ¬ x ≤ 57 ∧ ¬ 97 ≤ x ∧ ¬ 65 ≤ x) ∨ (48 ≤ x ∧ ¬ x ≤ 57 ∧ ¬ 97 ≤ x ∧ 65 ≤ x ∧ x ≤ 70) ∨ (48 ≤ x ∧ ¬ x ≤ 57 ∧ ¬ 97 ≤ x ∧ 65 ≤ x ∧ ¬ x ≤ 70) ∨ (48 ≤ x ∧ ¬ x ≤ 57 ∧ 97 ≤ x ∧ x ≤ 102) ∨ (48 ≤ x ∧ ¬ x ≤ 57 ∧ 97 ≤ x ∧ ¬ x ≤ 102 ∧ 65 ≤ x ∧ ¬ x ≤ 70) := by omega
  rcases hcs with ⟨a, b, d⟩ | ⟨a, b⟩ | ⟨a, b, d, f⟩ | ⟨a, b, d, f, g⟩ | ⟨a, b, d, f, g⟩ | ⟨a, b, d, f⟩ | ⟨a, b, d, f, g, h⟩
  · have HT : Hid (digI c = -1) := by show _ = _; rw [ht, if_neg (by omega), if_neg (by omega), if_neg (by omega)]
    clear ht hx hlt
    go_enter Tryz.func71, Tryz.ntmps71
    go_wp2_with fail
    go_ret
    exact ⟨by rw [HT.out]; rfl, rfl⟩
  · have HT : Hid (digI c = x - 48) := by show _ = _; rw [ht, if_pos (by omega)]
    clear ht hx hlt
    go_enter Tryz.func71, Tryz.ntmps71
    go_wp2_with fail
    go_ret
    exact ⟨by rw [HT.out]; rfl, rfl⟩
  · have HT : Hid (digI c = -1) := by show _ = _; rw [ht, if_neg (by omega), if_neg (by omega), if_neg (by omega)]
    clear ht hx hlt
    go_enter Tryz.func71, Tryz.ntmps71
    go_wp2_with fail
    go_ret
    exact ⟨by rw [HT.out]; rfl, rfl⟩
  · have HT : Hid (digI c = x - 65 + 10) := by show _ = _; rw [ht, if_neg (by omega), if_neg (by omega), if_pos (by omega)]
    clear ht hx hlt
    go_enter Tryz.func71, Tryz.ntmps71
    go_wp2_with fail
    go_ret
    exact ⟨by rw [HT.out]; rfl, rfl⟩
  · have HT : Hid (digI c = -1) := by show _ = _; rw [ht, if_neg (by omega), if_neg (by omega), if_neg (by omega)]
    clear ht hx hlt
    go_enter Tryz.func71, Tryz.ntmps71
    go_wp2_with fail
    go_ret
    exact ⟨by rw [HT.out]; rfl, rfl⟩
  · have HT : Hid (digI c = x - 97 + 10) := by show _ = _; rw [ht, if_neg (by omega), if_pos (by omega)]
    clear ht hx hlt
    go_enter Tryz.func71, Tryz.ntmps71
    go_wp2_with fail
    go_ret
    exact ⟨by rw [HT.out]; rfl, rfl⟩
  · have HT : Hid (digI c = -1) := by show _ = _; rw [ht, if_neg (by omega), if_neg (by omega), if_neg (by omega)]
    clear ht hx hlt
    go_enter Tryz.func71, Tryz.ntmps71
    go_wp2_with fail
    go_ret
    exact ⟨by rw [HT.out]; rfl, rfl⟩

/-- the letter of a rune's short escape -/
def sgN (n : Nat) : Nat := if n = 34 then 34 else if n = 92 then 92 else if n = 8 then 98 else if n = 12 then 102 else if n = 10 then 110 else if n = 13 then 114 else if n = 9 then 116 else 0
theorem sgN_lt (n : Nat) : sgN n < 256 := by unfold sgN; repeat' split
                                             all_goals omega
set_option maxRecDepth 100000 in
set_option maxHeartbeats 1600000 in
theorem w_rsign (n : Nat) (w : World) (hn : n ≤ 2147483647) :
    Calls Tryz.prog 50 #[.int .i64 (n : Int)] w fun e w' => e = .returned (.int .u8 ((sgN n : Nat) : Int)) ∧ w' = w := by
  by_cases a1 : n = 34
  · subst a1
    go_enter Tryz.func50, Tryz.ntmps50
    go_wp2_with fail
    go_ret
    exact ⟨rfl, rfl⟩
  by_cases a2 : n = 92
  · subst a2
    go_enter Tryz.func50, Tryz.ntmps50
    go_wp2_with fail
    go_ret
    exact ⟨rfl, rfl⟩
  by_cases a3 : n = 8
  · subst a3
    go_enter Tryz.func50, Tryz.ntmps50
    go_wp2_with fail
    go_ret
    exact ⟨rfl, rfl⟩
  by_cases a4 : n = 12
  · subst a4
    go_enter Tryz.func50, Tryz.ntmps50
    go_wp2_with fail
    go_ret
    exact ⟨rfl, rfl⟩
  by_cases a5 : n = 10
  · subst a5
    go_enter Tryz.func50, Tryz.ntmps50
    go_wp2_with fail
    go_ret
    exact ⟨rfl, rfl⟩
  by_cases a6 : n = 13
  · subst a6
    go_enter Tryz.func50, Tryz.ntmps50
    go_wp2_with fail
    go_ret
    exact ⟨rfl, rfl⟩
  by_cases a7 : n = 9
  · subst a7
    go_enter Tryz.func50, Tryz.ntmps50
    go_wp2_with fail
    go_ret
    exact ⟨rfl, rfl⟩
  have HT : Hid (sgN n = 0) := by show _ = _; unfold sgN; rw [if_neg a1, if_neg a2, if_neg a3, if_neg a4, if_neg a5, if_neg a6, if_neg a7]
  obtain ⟨z, hz⟩ : ∃ z : Int, (n : Int) = z := ⟨_, rfl⟩
  rw [hz]
  have b1 : (z == 34) = false := by rw [beq_eq_false_iff_ne]; omega
  have b2 : (z == 92) = false := by rw [beq_eq_false_iff_ne]; omega
  have b3 : (z == 8) = false := by rw [beq_eq_false_iff_ne]; omega
  have b4 : (z == 12) = false := by rw [beq_eq_false_iff_ne]; omega
  have b5 : (z == 10) = false := by rw [beq_eq_false_iff_ne]; omega
  have b6 : (z == 13) = false := by rw [beq_eq_false_iff_ne]; omega
  have b7 : (z == 9) = false := by rw [beq_eq_false_iff_ne]; omega
  clear a1 a2 a3 a4 a5 a6 a7 hz
  go_enter Tryz.func50, Tryz.ntmps50
  go_wp2_with fail
  go_ret
  exact ⟨by rw [HT.out]; rfl, rfl⟩

def shI (c : UInt8) : Int := match shN c with
  | some r => (r : Int)
  | none => -1
set_option maxRecDepth 100000 in
theorem sg_sh : ∀ k : Fin 128, sgN k.val ≠ 0 → shN (UInt8.ofNat (sgN k.val)) = some k.val := by decide
set_option maxRecDepth 100000 in
theorem sh_sg (c : UInt8) (r : Nat) (h : shN c = some r) : c = 47 ∨ (r < 128 ∧ sgN r = c.toNat ∧ c.toNat ≠ 0) := by
  have : ∀ m : Fin 256, ∀ r : Fin 128, shN (UInt8.ofNat m.val) = some r.val → UInt8.ofNat m.val = 47 ∨ (sgN r.val = m.val ∧ m.val ≠ 0) := by decide
  have hr := (shN_ok h).2.1
  have h2 := this ⟨c.toNat, c.toNat_lt⟩ ⟨r, hr⟩
  simp only [UInt8.ofNat_toNat] at h2
  exact (h2 h).imp id fun g => ⟨hr, g⟩

set_option maxRecDepth 100000 in
set_option maxHeartbeats 1600000 in
theorem w_rshort (c : UInt8) (w : World) :
    Calls Tryz.prog 55 #[.int .u8 ((c.toNat : Nat) : Int)] w fun e w' => e = .returned (.int .i64 (shI c)) ∧ w' = w := by
  by_cases h47 : c = 47
  · subst h47
    go_enter Tryz.func55, Tryz.ntmps55
    go_wp2_with fail
    go_ret
    exact ⟨rfl, rfl⟩
  have HSg := Hid.mk (fun (n : Nat) (h : n < 128) u => w_rsign n u (by omega))
  have HSh := Hid.mk (sh_sg c)
  have H47 := Hid.mk h47
  have hlt := c.toNat_lt
  obtain ⟨x, hx⟩ : ∃ x : Nat, c.toNat = x := ⟨_, rfl⟩
  have hb : (((x : Nat) : Int) == 47) = false := by
    rw [beq_eq_false_iff_ne]; intro e; apply h47; apply UInt8.toNat_inj.1
    have : (47 : UInt8).toNat = 47 := rfl
    omega
  rw [hx] at HSh hlt ⊢
  have HX := Hid.mk hx
  clear h47 hx
  go_enter Tryz.func55, Tryz.ntmps55
  go_wp2_with fail
  go_loopw [3] (fun i wr => ∃ k : Nat, k ≤ 128 ∧ i = .int .i64 (k : Int) ∧ wr = w ∧ Hid (∀ j, j < k → ¬ (sgN j = x ∧ x ≠ 0))) (fun i _ => 128 - (intOf i).toNat)
  case atStart => exact ⟨0, by omega, rfl, rfl, fun j hj => by omega⟩
  case round =>
    obtain ⟨k, hk, rfl, rfl, HQ⟩ := hrel
    by_cases hlt2 : k < 128
    · have hl1 : (k : Int) < 128 := by omega
      have HS1 := Hid.mk (HSg.out k hlt2)
      have hsl := sgN_lt k
      obtain ⟨g, hg⟩ : ∃ g, sgN k = g := ⟨_, rfl⟩
      rw [hg] at HS1 hsl
      have HG := Hid.mk hg
      clear hg
      by_cases he : g = x
      · have he1 : ((g : Int) == (x : Int)) = true := by rw [beq_iff_eq]; omega
        by_cases h0 : x = 0
        · have h01 : ((x : Int) != 0) = false := by simp; omega
          have HN : Hid (∀ j, j < k + 1 → ¬ (sgN j = x ∧ x ≠ 0)) := fun j hj hh => hh.2 h0
          clear he h0
          go_wp2_with fail
          refine (HS1.out _).mono ?_
          rintro e w1 ⟨rfl, hw⟩
          obtain rfl := hw.symm
          go_wp2_with fail
          go_roundw
          case rel => exact ⟨k + 1, by omega, by go_num, trivial, HN⟩
          case measure => simp [intOf]; omega
        · have h01 : ((x : Int) != 0) = true := by simp; omega
          have HF : Hid (shI c = (k : Int)) := by
            have := sg_sh ⟨k, hlt2⟩ (by show sgN k ≠ 0; rw [HG.out, he]; exact h0)
            have e1 : sgN k = c.toNat := by rw [HG.out, he, HX.out]
            rw [show sgN (⟨k, hlt2⟩ : Fin 128).val = c.toNat from e1, UInt8.ofNat_toNat] at this
            show shI c = _
            unfold shI
            rw [this]
          clear he h0
          go_wp2_with fail
          refine (HS1.out _).mono ?_
          rintro e w1 ⟨rfl, hw⟩
          obtain rfl := hw.symm
          go_wp2_with fail
          go_ret
          exact ⟨by rw [HF.out]; rfl, rfl⟩
      · have he1 : ((g : Int) == (x : Int)) = false := by rw [beq_eq_false_iff_ne]; omega
        have HN : Hid (∀ j, j < k + 1 → ¬ (sgN j = x ∧ x ≠ 0)) := fun j hj hh => by
          rcases Nat.lt_or_ge j k with g' | g'
          · exact HQ.out j g' hh
          · obtain rfl : j = k := by omega
            exact he (HG.out.symm.trans hh.1)
        clear he
        go_wp2_with fail
        refine (HS1.out _).mono ?_
        rintro e w1 ⟨rfl, hw⟩
        obtain rfl := hw.symm
        go_wp2_with fail
        go_roundw
        case rel => exact ⟨k + 1, by omega, by go_num, trivial, HN⟩
        case measure => simp [intOf]; omega
    · have hl1 : ¬ (k : Int) < 128 := by omega
      have HF : Hid (shI c = -1) := by
        show shI c = -1
        unfold shI
        cases hs : shN c with
        | none => rfl
        | some r =>
          rcases HSh.out r hs with g | ⟨g1, g2, g3⟩
          · exact absurd g H47.out
          · exact absurd ⟨g2, g3⟩ (HQ.out r (by omega))
      go_wp2_with fail
      go_ret
      exact ⟨by rw [HF.out]; rfl, rfl⟩

def rnum (l : List UInt8) (f : Nat) : Int := match numL (l.drop f) with
  | some n => (n : Int)
  | none => -1

theorem byteD {s : ByteArray} {f : Nat} (h : f < s.size) : s.data.toList.getD f 0 = s[f]'h := by
  have hl0 : f < s.data.toList.length := by rw [size_len]; exact h
  rw [List.getD_eq_getElem?_getD, List.getElem?_eq_getElem hl0]; rfl
theorem take_hex {s : ByteArray} {f i : Nat} (h2 : 2 ≤ i) (h : f + i < s.size) : ((s.data.toList.drop f).drop 2).take (i + 1 - 2) = ((s.data.toList.drop f).drop 2).take (i - 2) ++ [s[f + i]'h] := by
  have hl : i - 2 < ((s.data.toList.drop f).drop 2).length := by rw [List.length_drop, List.length_drop, size_len]; omega
  rw [show i + 1 - 2 = i - 2 + 1 by omega, List.take_add_one, List.getElem?_eq_getElem hl]
  congr 1
  simp only [Option.toList_some, List.getElem_drop]
  congr 1
  have : s.data.toList[f + (2 + (i - 2))]'(by rw [size_len]; omega) = s[f + (2 + (i - 2))]'(by omega) := rfl
  rw [this]
  congr 1
  omega

set_option maxRecDepth 100000 in
set_option maxHeartbeats 3200000 in
theorem w_rnumbered (s : ByteArray) (f : Nat) (w : World) (hf : f ≤ s.size) (hs : s.size ≤ 1099511627776) :
    Calls Tryz.prog 54 #[.string s, .int .i64 (f : Int)] w fun e w' => e = .returned (.int .i64 (rnum s.data.toList f)) ∧ w' = w := by
  have none_of : (¬ (6 ≤ (s.data.toList.drop f).length ∧ (s.data.toList.drop f).getD 0 0 = 92 ∧ (s.data.toList.drop f).getD 1 0 = 117 ∧ (((s.data.toList.drop f).drop 2).take 4).all isHex = true)) → rnum s.data.toList f = -1 := by
    intro h
    unfold rnum numL
    rw [if_neg h]
  rw [List.length_drop, size_len, getD_dropL, getD_dropL, Nat.add_zero] at none_of
  by_cases h6 : f + 6 ≤ s.size
  · have hg6 : ¬ (s.size : Int) < (f : Int) + 6 := by omega
    have l0 : f < s.size := by omega
    have l1 : f + 1 < s.size := by omega
    have i0 : (f : Int) < (s.size : Int) := by omega
    have i1 : (f : Int) + 1 < (s.size : Int) := by omega
    rw [byteD l0, byteD l1] at none_of
    by_cases a0 : s[f] = 92
    · by_cases a1 : s[f + 1] = 117
      · have HNO := Hid.mk none_of
        have HYes : Hid ((((s.data.toList.drop f).drop 2).take 4).all isHex = true → rnum s.data.toList f = ((hexN (((s.data.toList.drop f).drop 2).take 4) : Nat) : Int)) := by
          intro h
          unfold rnum numL
          rw [if_pos ⟨by rw [List.length_drop, size_len]; omega, by rw [getD_dropL, Nat.add_zero, byteD l0]; exact a0, by rw [getD_dropL, byteD l1]; exact a1, h⟩]
        clear none_of
        go_enter Tryz.func54, Tryz.ntmps54
        go_wp2_with fail
        go_loopw [5, 6] (fun n i wr => ∃ (j x : Nat), 2 ≤ j ∧ j ≤ 6 ∧ x < 65536 ∧ n = .int .i64 (x : Int) ∧ i = .int .i64 (j : Int) ∧ wr = w ∧ Hid (x = hexN (((s.data.toList.drop f).drop 2).take (j - 2)) ∧ (((s.data.toList.drop f).drop 2).take (j - 2)).all isHex = true)) (fun _ i _ => 6 - (intOf i).toNat)
        case atStart => exact ⟨2, 0, by omega, by omega, by omega, rfl, rfl, rfl, rfl, rfl⟩
        case round =>
          obtain ⟨j, x, hj2, hj, hxl, rfl, rfl, rfl, HQ⟩ := hrel
          by_cases hj4 : j < 6
          · have hl1 : (j : Int) < 6 := by omega
            have lj : f + j < s.size := by omega
            have ij : (f : Int) + (j : Int) < (s.size : Int) := by omega
            obtain ⟨c, hc⟩ : ∃ c, s[f + j]'lj = c := ⟨_, rfl⟩
            have HTk := Hid.mk (take_hex hj2 lj)
            rw [hc] at HTk
            have HD := Hid.mk (fun u => w_rdigit c u)
            cases hh : isHex c with
            | true =>
              have hd : digI c = ((hexd c : Nat) : Int) := by unfold digI; rw [if_pos hh]
              have hdl := hexd_lt hh
              rw [hd] at HD
              obtain ⟨d, hdd⟩ : ∃ d, hexd c = d := ⟨_, rfl⟩
              have hlen4 : (((s.data.toList.drop f).drop 2).take (j + 1 - 2)).length ≤ 4 := by rw [List.length_take]; omega
              have HN : Hid (x * 16 + d = hexN (((s.data.toList.drop f).drop 2).take (j + 1 - 2)) ∧ (((s.data.toList.drop f).drop 2).take (j + 1 - 2)).all isHex = true) := by
                rw [HTk.out, hexN_snoc, ← HQ.out.1, hdd]
                refine ⟨rfl, ?_⟩
                rw [List.all_append, HQ.out.2]
                simp [hh]
              have hx2 : x * 16 + d < 65536 := by
                rw [HN.out.1]; exact hexN_lt _ HN.out.2 4 hlen4
              rw [hdd] at HD hdl
              clear hd hdd hh hlen4
              go_wp2_with fail
              refine (HD.out _).mono ?_
              rintro e w1 ⟨rfl, hw⟩
              obtain rfl := hw.symm
              have hd0 : ¬ (d : Int) < 0 := by omega
              go_wp2_with fail
              go_roundw
              case rel => exact ⟨j + 1, x * 16 + d, by omega, by omega, hx2, by go_num, by go_num, trivial, HN⟩
              case measure => simp [intOf]; omega
            | false =>
              have hd : digI c = -1 := by unfold digI; rw [hh]; rfl
              rw [hd] at HD
              have HF : Hid (rnum s.data.toList f = -1) := by
                apply HNO.out
                rintro ⟨_, _, _, h4⟩
                have hm : c ∈ ((s.data.toList.drop f).drop 2).take 4 := by
                  have hm1 : c ∈ ((s.data.toList.drop f).drop 2).take (j + 1 - 2) := by rw [HTk.out]; simp
                  exact List.mem_of_mem_take (i := j + 1 - 2) (by rw [List.take_take, Nat.min_eq_left (by omega)]; exact hm1)
                have := List.all_eq_true.1 h4 c hm
                rw [hh] at this
                cases this
              clear hd hh
              go_wp2_with fail
              refine (HD.out _).mono ?_
              rintro e w1 ⟨rfl, hw⟩
              obtain rfl := hw.symm
              go_wp2_with fail
              go_ret
              exact ⟨by rw [HF.out]; rfl, rfl⟩
          · have hl1 : ¬ (j : Int) < 6 := by omega
            obtain rfl : j = 6 := by omega
            have HF := Hid.mk (HYes.out HQ.out.2)
            rw [← HQ.out.1] at HF
            go_wp2_with fail
            go_ret
            exact ⟨by rw [HF.out]; rfl, rfl⟩
      · have HF : Hid (rnum s.data.toList f = -1) := none_of (fun h => a1 h.2.2.1)
        have hb : ((((s[f + 1]).toNat : Nat) : Int) != 117) = true := by
          rw [bne_iff_ne]; intro e; apply a1; apply UInt8.toNat_inj.1
          have : (117 : UInt8).toNat = 117 := rfl
          omega
        clear a1 none_of
        go_enter Tryz.func54, Tryz.ntmps54
        go_wp2_with fail
        go_ret
        exact ⟨by rw [HF.out]; rfl, rfl⟩
    · have HF : Hid (rnum s.data.toList f = -1) := none_of (fun h => a0 h.2.1)
      have hb : ((((s[f]).toNat : Nat) : Int) != 92) = true := by
        rw [bne_iff_ne]; intro e; apply a0; apply UInt8.toNat_inj.1
        have : (92 : UInt8).toNat = 92 := rfl
        omega
      clear a0 none_of
      go_enter Tryz.func54, Tryz.ntmps54
      go_wp2_with fail
      go_ret
      exact ⟨by rw [HF.out]; rfl, rfl⟩
  · have hg6 : (s.size : Int) < (f : Int) + 6 := by omega
    have HF : Hid (rnum s.data.toList f = -1) := none_of (fun h => by omega)
    clear none_of h6
    go_enter Tryz.func54, Tryz.ntmps54
    go_wp2_with fail
    go_ret
    exact ⟨by rw [HF.out]; rfl, rfl⟩
end Go.Proofs.YtbfjpmbninlbbabGreatDoor
