import Derived.Test.YtfgfgcecbodjeaaGreatDoorM25
import Derived.Test.YtfgfgcecbodjeaaGreatDoorM18
import Derived.Test.YtfgfgcecbodjeaaGreatDoorM2
namespace Go.Proofs.YtfgfgcecbodjeaaGreatDoor
open Go.RowKit
set_option linter.unusedVariables false
set_option linter.unusedSimpArgs false

theorem escL_pre (x b : List UInt8) (k : Nat) : escL (x ++ b) (x.length + k) = ((escL b k).1, x.length + (escL b k).2.1, (escL b k).2.2) := by
  unfold escL
  rw [drop_pre, show x.length + k + 6 = x.length + (k + 6) by omega, drop_pre]
  split
  · simp [Nat.add_assoc]
  · split
    · rfl
    · split
      · simp [Nat.add_assoc]
      · split
        · rfl
        · split
          · simp [Nat.add_assoc]
          · rfl
theorem unqL_step {l : List UInt8} {p : Nat} (acc : List Nat) (h : p < l.length) : unqL l p acc =
    (if (decL (l.drop p)).1 = 34 then (acc, p + 1, 0)
    else if (decL (l.drop p)).1 < 32 then ([], p, 22)
    else if strayL (l.drop p) = true then ([], p, 20)
    else if (decL (l.drop p)).1 = 92 then
      (if (escL l p).2.2 = 0 then (if p < (escL l p).2.1 then unqL l (escL l p).2.1 (acc ++ [(escL l p).1]) else ([], 0, 0)) else ([], (escL l p).2.1, (escL l p).2.2))
    else (if 0 < (decL (l.drop p)).2 then unqL l (p + (decL (l.drop p)).2) (acc ++ [(decL (l.drop p)).1]) else ([], 0, 0))) := by
  rw [unqL, dif_pos h]
theorem unqL_pre (x b : List UInt8) : ∀ (n p : Nat) (acc : List Nat), b.length - p ≤ n → p ≤ b.length → unqL (x ++ b) (x.length + p) acc = ((unqL b p acc).1, x.length + (unqL b p acc).2.1, (unqL b p acc).2.2) := by
  intro n
  induction n with
  | zero =>
    intro p acc hn hp
    rw [unqL_end acc (by simp; omega), unqL_end acc (by omega)]
    simp
  | succ n ih =>
    intro p acc hn hp
    by_cases hlt : p < b.length
    · have e1 := unqL_step (l := x ++ b) (p := x.length + p) acc (by simp; omega)
      rw [drop_pre, escL_pre] at e1
      have e2 := unqL_step (l := b) acc hlt
      rw [e1, e2]
      by_cases h1 : (decL (b.drop p)).1 = 34
      · rw [if_pos h1, if_pos h1]; rfl
      · rw [if_neg h1, if_neg h1]
        by_cases h2 : (decL (b.drop p)).1 < 32
        · rw [if_pos h2, if_pos h2]
        · rw [if_neg h2, if_neg h2]
          by_cases h3 : strayL (b.drop p) = true
          · rw [if_pos h3, if_pos h3]
          · rw [if_neg h3, if_neg h3]
            by_cases h4 : (decL (b.drop p)).1 = 92
            · rw [if_pos h4, if_pos h4]
              dsimp only
              by_cases h5 : (escL b p).2.2 = 0
              · obtain ⟨g1, g2, _⟩ := escL_ok h5
                rw [if_pos h5, if_pos h5, if_pos g1, if_pos (by omega), ih _ _ (by omega) g2]
              · rw [if_neg h5, if_neg h5]
            · rw [if_neg h4, if_neg h4]
              have hz := decL_pos (b.drop p)
              have hst := decL_le (b.drop p) (fun e => by have := congrArg List.length e; rw [List.length_drop] at this; simp at this; omega)
              rw [List.length_drop] at hst
              rw [if_pos (by omega), if_pos (by omega), show x.length + p + (decL (b.drop p)).2 = x.length + (p + (decL (b.drop p)).2) by omega, ih _ _ (by omega) (by omega)]
    · rw [unqL_end acc (by simp; omega), unqL_end acc (by omega)]
      simp
theorem shiftT_err (m : Nat) (t : Tok) : (shiftT m t).err = t.err := by
  unfold shiftT
  split
  · next h => exact h.symm
  · rfl
theorem litT_pre {x b : List UInt8} {p : Nat} (hp : p < b.length) : litT (x ++ b) (x.length + p) = shiftT x.length (litT b p) := by
  unfold litT
  rw [show x.length + p + 1 = x.length + (p + 1) by omega, unqL_pre x b (b.length - (p + 1)) (p + 1) [] (Nat.le_refl _) (by omega)]
  dsimp only
  by_cases h : (unqL b (p + 1) []).2.2 = 0
  · rw [if_pos h, if_pos h]; rfl
  · rw [if_neg h, if_neg h]
    unfold shiftT
    rw [if_neg h]
theorem nextT_pre {x b : List UInt8} {p : Nat} (hp : p < b.length) : nextT (x ++ b) (x.length + p) = shiftT x.length (nextT b p) := by
  unfold nextT
  rw [getD_pre, litT_pre hp, wordT_pre hp, numeralT_pre hp]
  split
  · rfl
  · split
    · rfl
    · split
      · rfl
      · split <;> rfl
end Go.Proofs.YtfgfgcecbodjeaaGreatDoor
namespace Go.Proofs.YtfgfgcecbodjeaaGreatDoor
open Go.RowKit
set_option linter.unusedVariables false
set_option linter.unusedSimpArgs false

theorem dec_app {x : List UInt8} (y : List UInt8) (hx : x ≠ []) (hs : strayL x = false) : decL (x ++ y) = decL x ∧ strayL (x ++ y) = false := by
  rcases stray_or x hx with ⟨n, post, hn, rfl, _⟩ | ⟨_, h⟩
  · rw [List.append_assoc, dec_enc n hn, dec_enc n hn]
    exact ⟨rfl, stray_enc n hn _⟩
  · rw [h] at hs; cases hs
theorem shortL_app {x : List UInt8} (y : List UInt8) (h : 2 ≤ x.length) : shortL (x ++ y) = shortL x := by
  unfold shortL
  rw [getD_app (by omega), getD_app (by omega)]
  have : 2 ≤ (x ++ y).length := by simp; omega
  simp only [this, h, and_true]
theorem numL_app {x : List UInt8} (y : List UInt8) (h : 6 ≤ x.length) : numL (x ++ y) = numL x := by
  unfold numL
  rw [getD_app (by omega), getD_app (by omega), List.drop_append_of_le_length (by omega), List.take_append_of_le_length (by rw [List.length_drop]; omega)]
  have : 6 ≤ (x ++ y).length := by simp; omega
  simp only [this, h, true_and]
theorem shortL_len {x : List UInt8} {r : Nat} (h : shortL x = some r) : 2 ≤ x.length := by
  unfold shortL at h
  split at h
  · next h1 => exact h1.2
  · cases h
theorem numL_len {x : List UInt8} {r : Nat} (h : numL x = some r) : 6 ≤ x.length := by
  unfold numL at h
  split at h
  · next h1 => exact h1.1
  · cases h
theorem escL_app {a : List UInt8} (y : List UInt8) {k : Nat} (hk : k ≤ a.length) (h : (escL a k).2.2 = 0) : escL (a ++ y) k = escL a k := by
  unfold escL at h ⊢
  rw [List.drop_append_of_le_length hk]
  cases hs : shortL (a.drop k) with
  | some r => rw [shortL_app y (shortL_len hs), hs]
  | none =>
    rw [hs] at h
    dsimp only at h
    cases hn : numL (a.drop k) with
    | none => rw [hn] at h; cases h
    | some n =>
      have h6 := numL_len hn
      rw [hn] at h
      dsimp only at h
      rw [shortL_app y (by omega), hs, numL_app y h6, hn]
      dsimp only
      rw [List.length_drop] at h6
      split
      · rfl
      · next hc =>
        rw [if_neg hc] at h
        cases hm : numL (a.drop (k + 6)) with
        | none => rw [hm] at h; cases h
        | some m => rw [List.drop_append_of_le_length (by omega), numL_app y (numL_len hm), hm]
theorem unqL_app {a : List UInt8} (y : List UInt8) : ∀ (n p : Nat) (acc : List Nat), a.length - p ≤ n → (unqL a p acc).2.2 = 0 → unqL (a ++ y) p acc = unqL a p acc := by
  intro n
  induction n with
  | zero => intro p acc hn h0; rw [unqL_end acc (by omega)] at h0; cases h0
  | succ n ih =>
    intro p acc hn h0
    by_cases hlt : p < a.length
    · have hne : a.drop p ≠ [] := fun e => by have := congrArg List.length e; rw [List.length_drop] at this; simp at this; omega
      have e2 := unqL_step (l := a) acc hlt
      have hs : strayL (a.drop p) = false := by
        cases hst : strayL (a.drop p) with
        | false => rfl
        | true =>
          exfalso
          rcases stray_or (a.drop p) hne with ⟨_, _, _, _, h⟩ | ⟨hd, _⟩
          · rw [h] at hst; cases hst
          · rw [e2, if_neg (by rw [hd]; decide), if_neg (by rw [hd]; decide), if_pos hst] at h0
            cases h0
      obtain ⟨d1, d2⟩ := dec_app y hne hs
      have e1 := unqL_step (l := a ++ y) (p := p) acc (by simp; omega)
      rw [List.drop_append_of_le_length (Nat.le_of_lt hlt), d1] at e1
      rw [e2] at h0
      rw [e1, e2]
      by_cases h1 : (decL (a.drop p)).1 = 34
      · rw [if_pos h1, if_pos h1]
      · rw [if_neg h1] at h0
        rw [if_neg h1, if_neg h1]
        by_cases h2 : (decL (a.drop p)).1 < 32
        · rw [if_pos h2] at h0; cases h0
        · rw [if_neg h2] at h0
          rw [if_neg h2, if_neg h2]
          rw [if_neg (show ¬ strayL (a.drop p) = true by rw [hs]; decide)] at h0
          rw [if_neg (show ¬ strayL (a.drop p ++ y) = true by rw [d2]; decide), if_neg (show ¬ strayL (a.drop p) = true by rw [hs]; decide)]
          by_cases h4 : (decL (a.drop p)).1 = 92
          · rw [if_pos h4] at h0
            rw [if_pos h4, if_pos h4]
            by_cases h5 : (escL a p).2.2 = 0
            · obtain ⟨g1, g2, _⟩ := escL_ok h5
              rw [if_pos h5, if_pos g1] at h0
              rw [escL_app y (Nat.le_of_lt hlt) h5, if_pos h5, if_pos h5, if_pos g1, if_pos g1, ih _ _ (by omega) h0]
            · rw [if_neg h5] at h0; exact absurd h0 h5
          · rw [if_neg h4] at h0
            rw [if_neg h4, if_neg h4]
            have hz := decL_pos (a.drop p)
            rw [if_pos (by omega)] at h0
            rw [if_pos (by omega), if_pos (by omega), ih _ _ (by omega) h0]
    · rw [unqL_end acc hlt] at h0; cases h0
theorem litT_app {a : List UInt8} (y : List UInt8) {p : Nat} (h : (litT a p).err = 0) : litT (a ++ y) p = litT a p := by
  have hu : (unqL a (p + 1) []).2.2 = 0 := by
    unfold litT at h
    split at h
    · assumption
    · exact h
  unfold litT
  rw [unqL_app y (a.length - (p + 1)) (p + 1) [] (Nat.le_refl _) hu]
end Go.Proofs.YtfgfgcecbodjeaaGreatDoor
namespace Go.Proofs.YtfgfgcecbodjeaaGreatDoor
open Go.RowKit
set_option linter.unusedVariables false
set_option linter.unusedSimpArgs false

theorem beh_step {l : List UInt8} {p : Nat} {cs : List UInt8} (hp : p < l.length) (hc : cs.contains (l.getD p 0) = true) : behL l p cs = behL l (p + 1) cs := by
  have e : l.drop p = l.getD p 0 :: l.drop (p + 1) := by
    rw [List.drop_eq_getElem_cons hp]; simp [List.getD, hp]
  unfold behL
  rw [e, List.dropWhile_cons, if_pos hc]
theorem beh_stop {l : List UInt8} {p : Nat} {cs : List UInt8} (hp : p < l.length) (hc : cs.contains (l.getD p 0) = false) : behL l p cs = p := by
  have e : l.drop p = l.getD p 0 :: l.drop (p + 1) := by
    rw [List.drop_eq_getElem_cons hp]; simp [List.getD, hp]
  unfold behL
  rw [e, List.dropWhile_cons, if_neg (by rw [hc]; decide), List.length_cons, List.length_drop]
  omega
theorem beh_end {l : List UInt8} {p : Nat} {cs : List UInt8} (hp : l.length ≤ p) : behL l p cs = l.length := by
  unfold behL
  rw [List.drop_eq_nil_of_le hp]
  rfl
/-- the tokens ahead of a place, and those behind it -/
def AhS (l : List UInt8) (p : Nat) (pre : List Tok) : Prop := p ≤ l.length ∧ (∀ t ∈ pre, t.err = 0) ∧ ∃ f, l.length - behL l p cBl < f ∧ allY l = pre ++ restY l f (behL l p cBl)
theorem AhS.start (l : List UInt8) : AhS l 0 [] := ⟨Nat.zero_le _, (fun t h => absurd h (List.not_mem_nil)), l.length + 1, by omega, rfl⟩
theorem AhS.done {l : List UInt8} {p : Nat} {pre : List Tok} (h : AhS l p pre) (hp : ¬ p < l.length) : allY l = pre := by
  obtain ⟨_, h1, f, h2, h3⟩ := h
  rw [beh_end (by omega)] at h2 h3
  cases f with
  | zero => omega
  | succ f => rw [restY, if_neg (by omega), List.append_nil] at h3; exact h3
theorem AhS.bad {l : List UInt8} {p : Nat} {pre : List Tok} (h : AhS l p pre) (hp : p < l.length) (hc : cBl.contains (l.getD p 0) = false) (he : (nextT l p).err ≠ 0) : allY l = pre ++ [nextT l p] := by
  obtain ⟨_, h1, f, h2, h3⟩ := h
  rw [beh_stop hp hc] at h2 h3
  cases f with
  | zero => omega
  | succ f =>
    rw [restY, if_pos hp, if_neg he] at h3
    exact h3
end Go.Proofs.YtfgfgcecbodjeaaGreatDoor
namespace Go.Proofs.YtfgfgcecbodjeaaGreatDoor
open Go.RowKit
set_option linter.unusedVariables false
set_option linter.unusedSimpArgs false

set_option maxRecDepth 100000 in
theorem blank_tab (c : UInt8) : cBl.contains c = decide (c.toNat = 32 ∨ c.toNat = 9 ∨ c.toNat = 10 ∨ c.toNat = 13) := by
  have : ∀ m : Fin 256, cBl.contains (UInt8.ofNat m.val) = decide (m.val = 32 ∨ m.val = 9 ∨ m.val = 10 ∨ m.val = 13) := by decide +kernel
  have h := this ⟨c.toNat, c.toNat_lt⟩
  simp only [UInt8.ofNat_toNat] at h
  exact h
set_option maxRecDepth 100000 in
theorem letter_tab (c : UInt8) : cLe.contains c = decide ((97 ≤ c.toNat ∧ c.toNat ≤ 122) ∨ (65 ≤ c.toNat ∧ c.toNat ≤ 90) ∨ c.toNat = 95) := by
  have : ∀ m : Fin 256, cLe.contains (UInt8.ofNat m.val) = decide ((97 ≤ m.val ∧ m.val ≤ 122) ∨ (65 ≤ m.val ∧ m.val ≤ 90) ∨ m.val = 95) := by decide +kernel
  have h := this ⟨c.toNat, c.toNat_lt⟩
  simp only [UInt8.ofNat_toNat] at h
  exact h
set_option maxRecDepth 100000 in
theorem digit_tab (c : UInt8) : cDg.contains c = decide (48 ≤ c.toNat ∧ c.toNat ≤ 57) := by
  have : ∀ m : Fin 256, cDg.contains (UInt8.ofNat m.val) = decide (48 ≤ m.val ∧ m.val ≤ 57) := by decide +kernel
  have h := this ⟨c.toNat, c.toNat_lt⟩
  simp only [UInt8.ofNat_toNat] at h
  exact h
theorem wd_split (c : UInt8) : cWd.contains c = (cLe.contains c || cDg.contains c) := by
  have : ∀ m : Fin 256, cWd.contains (UInt8.ofNat m.val) = (cLe.contains (UInt8.ofNat m.val) || cDg.contains (UInt8.ofNat m.val)) := by decide +kernel
  have h := this ⟨c.toNat, c.toNat_lt⟩
  simp only [UInt8.ofNat_toNat] at h
  exact h
theorem nm_split (c : UInt8) : cNm.contains c = (cLe.contains c || cDg.contains c || decide (c.toNat = 43) || decide (c.toNat = 45) || decide (c.toNat = 46)) := by
  have : ∀ m : Fin 256, cNm.contains (UInt8.ofNat m.val) = (cLe.contains (UInt8.ofNat m.val) || cDg.contains (UInt8.ofNat m.val) || decide (m.val = 43) || decide (m.val = 45) || decide (m.val = 46)) := by decide +kernel
  have h := this ⟨c.toNat, c.toNat_lt⟩
  simp only [UInt8.ofNat_toNat] at h
  exact h
theorem dm_split (c : UInt8) : cDm.contains c = (cDg.contains c || decide (c.toNat = 45)) := by
  have : ∀ m : Fin 256, cDm.contains (UInt8.ofNat m.val) = (cDg.contains (UInt8.ofNat m.val) || decide (m.val = 45)) := by decide +kernel
  have h := this ⟨c.toNat, c.toNat_lt⟩
  simp only [UInt8.ofNat_toNat] at h
  exact h
/-- the kind of a mark, or 0 -/
def mkN (c : UInt8) : Nat := if cMk.contains c = true then (1 + Lib.indexByte cMk c).toNat else 0
set_option maxRecDepth 100000 in
theorem mk_tab (c : UInt8) : mkN c = if c.toNat = 123 then 1 else if c.toNat = 125 then 2 else if c.toNat = 91 then 3 else if c.toNat = 93 then 4 else if c.toNat = 58 then 5 else if c.toNat = 44 then 6 else 0 := by
  have : ∀ m : Fin 256, mkN (UInt8.ofNat m.val) = if m.val = 123 then 1 else if m.val = 125 then 2 else if m.val = 91 then 3 else if m.val = 93 then 4 else if m.val = 58 then 5 else if m.val = 44 then 6 else 0 := by decide +kernel
  have h := this ⟨c.toNat, c.toNat_lt⟩
  simp only [UInt8.ofNat_toNat] at h
  exact h
theorem mk_pos (c : UInt8) : 0 < mkN c ↔ cMk.contains c = true := by
  have : ∀ m : Fin 256, (0 < mkN (UInt8.ofNat m.val)) ↔ cMk.contains (UInt8.ofNat m.val) = true := by decide +kernel
  have h := this ⟨c.toNat, c.toNat_lt⟩
  simp only [UInt8.ofNat_toNat] at h
  exact h
end Go.Proofs.YtfgfgcecbodjeaaGreatDoor
namespace Go.Proofs.YtfgfgcecbodjeaaGreatDoor
open Go.RowKit
set_option linter.unusedVariables false
set_option linter.unusedSimpArgs false

set_option maxRecDepth 100000 in
set_option maxHeartbeats 1600000 in
theorem w_5blank (c : UInt8) (w : World) :
    Calls Tryz.prog 30 #[.int .u8 ((c.toNat : Nat) : Int)] w fun e w' => e = .returned (.bool (cBl.contains c)) ∧ w' = w := by
  have ht := blank_tab c
  have hlt := c.toNat_lt
  obtain ⟨x, hx⟩ : ∃ x : Int, ((c.toNat : Nat) : Int) = x := ⟨_, rfl⟩
  rw [hx]
  by_cases h1 : x = 32
  · have HT : cBl.contains c = true := by rw [ht]; exact decide_eq_true (by omega)
    rw [HT]
    subst h1; clear HT ht hx hlt
    go_enter Tryz.func30, Tryz.ntmps30
    go_wp2_with fail
    go_ret
    exact ⟨by first | rfl | simp [*], rfl⟩
  by_cases h2 : x = 9
  · have HT : cBl.contains c = true := by rw [ht]; exact decide_eq_true (by omega)
    rw [HT]
    subst h2; clear HT ht hx hlt h1
    go_enter Tryz.func30, Tryz.ntmps30
    go_wp2_with fail
    go_ret
    exact ⟨by first | rfl | simp [*], rfl⟩
  by_cases h3 : x = 10
  · have HT : cBl.contains c = true := by rw [ht]; exact decide_eq_true (by omega)
    rw [HT]
    subst h3; clear HT ht hx hlt h1 h2
    go_enter Tryz.func30, Tryz.ntmps30
    go_wp2_with fail
    go_ret
    exact ⟨by first | rfl | simp [*], rfl⟩
  by_cases h4 : x = 13
  · have HT : cBl.contains c = true := by rw [ht]; exact decide_eq_true (by omega)
    rw [HT]
    subst h4; clear HT ht hx hlt h1 h2 h3
    go_enter Tryz.func30, Tryz.ntmps30
    go_wp2_with fail
    go_ret
    exact ⟨by first | rfl | simp [*], rfl⟩
  have HT : cBl.contains c = false := by rw [ht]; exact decide_eq_false (by omega)
  rw [HT]
  clear HT ht hx hlt
  go_enter Tryz.func30, Tryz.ntmps30
  go_wp2_with fail
  go_ret
  exact ⟨by first | rfl | simp [*], rfl⟩

set_option maxRecDepth 100000 in
set_option maxHeartbeats 1600000 in
theorem w_5digit (c : UInt8) (w : World) :
    Calls Tryz.prog 27 #[.int .u8 ((c.toNat : Nat) : Int)] w fun e w' => e = .returned (.bool (cDg.contains c)) ∧ w' = w := by
  have ht := digit_tab c
  have hlt := c.toNat_lt
  obtain ⟨x, hx⟩ : ∃ x : Int, ((c.toNat : Nat) : Int) = x := ⟨_, rfl⟩
  rw [hx]
  by_cases h1 : 48 ≤ x
  · by_cases h2 : x ≤ 57
    · have HT : cDg.contains c = true := by rw [ht]; exact decide_eq_true (by omega)
      rw [HT]
      clear HT ht hx hlt
      go_enter Tryz.func27, Tryz.ntmps27
      go_wp2_with fail
      go_ret
      exact ⟨by first | rfl | simp [*], rfl⟩
    · have HT : cDg.contains c = false := by rw [ht]; exact decide_eq_false (by omega)
      rw [HT]
      clear HT ht hx hlt
      go_enter Tryz.func27, Tryz.ntmps27
      go_wp2_with fail
      go_ret
      exact ⟨by first | rfl | simp [*], rfl⟩
  · have HT : cDg.contains c = false := by rw [ht]; exact decide_eq_false (by omega)
    rw [HT]
    clear HT ht hx hlt
    go_enter Tryz.func27, Tryz.ntmps27
    go_wp2_with fail
    go_ret
    exact ⟨by first | rfl | simp [*], rfl⟩

set_option maxRecDepth 100000 in
set_option maxHeartbeats 1600000 in
theorem w_5letter (c : UInt8) (w : World) :
    Calls Tryz.prog 32 #[.int .u8 ((c.toNat : Nat) : Int)] w fun e w' => e = .returned (.bool (cLe.contains c)) ∧ w' = w := by
  have ht := letter_tab c
  have hlt := c.toNat_lt
  obtain ⟨x, hx⟩ : ∃ x : Int, ((c.toNat : Nat) : Int) = x := ⟨_, rfl⟩
  rw [hx]
  have hcs : (97 ≤ x ∧ x ≤ 122) ∨ (97 ≤ x ∧ ¬ x ≤ 122 ∧ 65 ≤ x ∧ ¬ x ≤ 90 ∧ ¬ x = 95) ∨ (¬ 97 ≤ x ∧ 65 ≤ x ∧ x ≤ 90) ∨ (¬ 97 ≤ x ∧ 65 ≤ x ∧ ¬ x ≤ 90 ∧ x = 95) ∨ (¬ 97 ≤ x ∧ 65 ≤ x ∧ ¬ x ≤ 90 ∧ ¬ x = 95) ∨ (¬ 97 ≤ x ∧ ¬ 65 ≤ x ∧ ¬ x = 95) := by omega
  rcases hcs with ⟨a, b⟩ | ⟨a, b, d, f, g⟩ | ⟨a, b, d⟩ | ⟨a, b, d, f⟩ | ⟨a, b, d, f⟩ | ⟨a, b, d⟩
  · have HT : cLe.contains c = true := by rw [ht]; exact decide_eq_true (by omega)
    rw [HT]
    clear HT ht hx hlt
    go_enter Tryz.func32, Tryz.ntmps32
    go_wp2_with fail
    go_ret
    exact ⟨by first | rfl | simp [*], rfl⟩
  · have HT : cLe.contains c = false := by rw [ht]; exact decide_eq_false (by omega)
    rw [HT]
    clear HT ht hx hlt
    go_enter Tryz.func32, Tryz.ntmps32
    go_wp2_with fail
    go_ret
    exact ⟨by first | rfl | simp [*], rfl⟩
  · have HT : cLe.contains c = true := by rw [ht]; exact decide_eq_true (by omega)
    rw [HT]
    clear HT ht hx hlt
    go_enter Tryz.func32, Tryz.ntmps32
    go_wp2_with fail
    go_ret
    exact ⟨by first | rfl | simp [*], rfl⟩
  · have HT : cLe.contains c = true := by rw [ht]; exact decide_eq_true (by omega)
    rw [HT]
    subst f
    clear HT ht hx hlt a b d
    go_enter Tryz.func32, Tryz.ntmps32
    go_wp2_with fail
    go_ret
    exact ⟨by first | rfl | simp [*], rfl⟩
  · have HT : cLe.contains c = false := by rw [ht]; exact decide_eq_false (by omega)
    rw [HT]
    clear HT ht hx hlt
    go_enter Tryz.func32, Tryz.ntmps32
    go_wp2_with fail
    go_ret
    exact ⟨by first | rfl | simp [*], rfl⟩
  · have HT : cLe.contains c = false := by rw [ht]; exact decide_eq_false (by omega)
    rw [HT]
    clear HT ht hx hlt
    go_enter Tryz.func32, Tryz.ntmps32
    go_wp2_with fail
    go_ret
    exact ⟨by first | rfl | simp [*], rfl⟩
end Go.Proofs.YtfgfgcecbodjeaaGreatDoor
