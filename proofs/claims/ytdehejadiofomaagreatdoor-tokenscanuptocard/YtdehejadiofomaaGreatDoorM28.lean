import Derived.Test.YtdehejadiofomaaGreatDoorM27
namespace Go.Proofs.YtdehejadiofomaaGreatDoor
open Go.RowKit
set_option linter.unusedVariables false
set_option linter.unusedSimpArgs false

set_option maxRecDepth 100000 in
theorem blank_tab (c : UInt8) : cBl.contains c = decide (c.toNat = 32 ∨ c.toNat = 9 ∨ c.toNat = 10 ∨ c.toNat = 13) := by
  have : ∀ m : Fin 256, cBl.contains (UInt8.ofNat m.val) = decide (m.val = 32 ∨ m.val = 9 ∨ m.val = 10 ∨ m.val = 13) := by decide +kernel
  have h := this ⟨c.toNat, c.toNat_lt⟩
  simp only [UInt8.ofNat_toNat] at h
  exact h
set_option maxRecDepth 100000 in
theorem letter_tab (c : UInt8) : cLe.contains c = decide ((97 ≤ c.toNat ∧ c.toNat ≤ 122) ∨ (65 ≤ c.toNat ∧ c.toNat ≤ 90) ∨ c.toNat = 95) := by
  have : ∀ m : Fin 256, cLe.contains (UInt8.ofNat m.val) = decide ((97 ≤ m.val ∧ m.val ≤ 122) ∨ (65 ≤ m.val ∧ m.val ≤ 90) ∨ m.val = 95) := by decide +kernel
  have h := this ⟨c.toNat, c.toNat_lt⟩
  simp only [UInt8.ofNat_toNat] at h
  exact h
set_option maxRecDepth 100000 in
theorem digit_tab (c : UInt8) : cDg.contains c = decide (48 ≤ c.toNat ∧ c.toNat ≤ 57) := by
  have : ∀ m : Fin 256, cDg.contains (UInt8.ofNat m.val) = decide (48 ≤ m.val ∧ m.val ≤ 57) := by decide +kernel
  have h := this ⟨c.toNat, c.toNat_lt⟩
  simp only [UInt8.ofNat_toNat] at h
  exact h
theorem wd_split (c : UInt8) : cWd.contains c = (cLe.contains c || cDg.contains c) := by
  have : ∀ m : Fin 256, cWd.contains (UInt8.ofNat m.val) = (cLe.contains (UInt8.ofNat m.val) || cDg.contains (UInt8.ofNat m.val)) := by decide +kernel
  have h := this ⟨c.toNat, c.toNat_lt⟩
  simp only [UInt8.ofNat_toNat] at h
  exact h
theorem nm_split (c : UInt8) : cNm.contains c = (cLe.contains c || cDg.contains c || decide (c.toNat = 43) || decide (c.toNat = 45) || decide (c.toNat = 46)) := by
  have : ∀ m : Fin 256, cNm.contains (UInt8.ofNat m.val) = (cLe.contains (UInt8.ofNat m.val) || cDg.contains (UInt8.ofNat m.val) || decide (m.val = 43) || decide (m.val = 45) || decide (m.val = 46)) := by decide +kernel
  have h := this ⟨c.toNat, c.toNat_lt⟩
  simp only [UInt8.ofNat_toNat] at h
  exact h
theorem dm_split (c : UInt8) : cDm.contains c = (cDg.contains c || decide (c.toNat = 45)) := by
  have : ∀ m : Fin 256, cDm.contains (UInt8.ofNat m.val) = (cDg.contains (UInt8.ofNat m.val) || decide (m.val = 45)) := by decide +kernel
  have h := this ⟨c.toNat, c.toNat_lt⟩
  simp only [UInt8.ofNat_toNat] at h
  exact h
/-- the kind of a mark, or 0 -/
def mkN (c : UInt8) : Nat := if cMk.contains c = true then (1 + Lib.indexByte cMk c).toNat else 0
set_option maxRecDepth 100000 in
theorem mk_tab (c : UInt8) : mkN c = if c.toNat = 123 then 1 else if c.toNat = 125 then 2 else if c.toNat = 91 then 3 else if c.toNat = 93 then 4 else if c.toNat = 58 then 5 else if c.toNat = 44 then 6 else 0 := by
  have : ∀ m : Fin 256, mkN (UInt8.ofNat m.val) = if m.val = 123 then 1 else if m.val = 125 then 2 else if m.val = 91 then 3 else if m.val = 93 then 4 else if m.val = 58 then 5 else if m.val = 44 then 6 else 0 := by decide +kernel
  have h := this ⟨c.toNat, c.toNat_lt⟩
  simp only [UInt8.ofNat_toNat] at h
  exact h
theorem mk_pos (c : UInt8) : 0 < mkN c ↔ cMk.contains c = true := by
  have : ∀ m : Fin 256, (0 < mkN (UInt8.ofNat m.val)) ↔ cMk.contains (UInt8.ofNat m.val) = true := by decide +kernel
  have h := this ⟨c.toNat, c.toNat_lt⟩
  simp only [UInt8.ofNat_toNat] at h
  exact h

set_option maxRecDepth 100000 in
set_option maxHeartbeats 1600000 in
theorem w_rBlank (c : UInt8) (w : World) :
    Calls Tryz.prog 32 #[.int .u8 ((c.toNat : Nat) : Int)] w fun e w' => e = .returned (.bool (cBl.contains c)) ∧ w' = w := by
  have ht := blank_tab c
  have hlt := c.toNat_lt
  obtain ⟨x, hx⟩ : ∃ x : Int, ((c.toNat : Nat) : Int) = x := ⟨_, rfl⟩
  rw [hx]
  by_cases h1 : x = 32
  · have HT : cBl.contains c = true := by rw [ht]; exact decide_eq_true (by omega)
    rw [HT]
    subst h1; clear HT ht hx hlt
    go_enter Tryz.func32, Tryz.ntmps32
    go_wp2_with fail
    go_ret
    exact ⟨by first | rfl | simp [*], rfl⟩
  by_cases h2 : x = 9
  · have HT : cBl.contains c = true := by rw [ht]; exact decide_eq_true (by omega)
    rw [HT]
    subst h2; clear HT ht hx hlt h1
    go_enter Tryz.func32, Tryz.ntmps32
    go_wp2_with fail
    go_ret
    exact ⟨by first | rfl | simp [*], rfl⟩
  by_cases h3 : x = 10
  · have HT : cBl.contains c = true := by rw [ht]; exact decide_eq_true (by omega)
    rw [HT]
    subst h3; clear HT ht hx hlt h1 h2
    go_enter Tryz.func32, Tryz.ntmps32
    go_wp2_with fail
    go_ret
    exact ⟨by first | rfl | simp [*], rfl⟩
  by_cases h4 : x = 13
  · have HT : cBl.contains c = true := by rw [ht]; exact decide_eq_true (by omega)
    rw [HT]
    subst h4; clear HT ht hx hlt h1 h2 h3
    go_enter Tryz.func32, Tryz.ntmps32
    go_wp2_with fail
    go_ret
    exact ⟨by first | rfl | simp [*], rfl⟩
  have HT : cBl.contains c = false := by rw [ht]; exact decide_eq_false (by omega)
  rw [HT]
  clear HT ht hx hlt
  go_enter Tryz.func32, Tryz.ntmps32
  go_wp2_with fail
  go_ret
  exact ⟨by first | rfl | simp [*], rfl⟩

set_option maxRecDepth 100000 in
set_option maxHeartbeats 1600000 in
theorem w_rdigit4 (c : UInt8) (w : World) :
    Calls Tryz.prog 68 #[.int .u8 ((c.toNat : Nat) : Int)] w fun e w' => e = .returned (.bool (cDg.contains c)) ∧ w' = w := by
  have ht := digit_tab c
  have hlt := c.toNat_lt
  obtain ⟨x, hx⟩ : ∃ x : Int, ((c.toNat : Nat) : Int) = x := ⟨_, rfl⟩
  rw [hx]
  by_cases h1 : 48 ≤ x
  · by_cases h2 : x ≤ 57
    · have HT : cDg.contains c = true := by rw [ht]; exact decide_eq_true (by omega)
      rw [HT]
      clear HT ht hx hlt
      go_enter Tryz.func68, Tryz.ntmps68
      go_wp2_with fail
      go_ret
      exact ⟨by first | rfl | simp [*], rfl⟩
    · have HT : cDg.contains c = false := by rw [ht]; exact decide_eq_false (by omega)
      rw [HT]
      clear HT ht hx hlt
      go_enter Tryz.func68, Tryz.ntmps68
      go_wp2_with fail
      go_ret
      exact ⟨by first | rfl | simp [*], rfl⟩
  · have HT : cDg.contains c = false := by rw [ht]; exact decide_eq_false (by omega)
    rw [HT]
    clear HT ht hx hlt
    go_enter Tryz.func68, Tryz.ntmps68
    go_wp2_with fail
    go_ret
    exact ⟨by first | rfl | simp [*], rfl⟩

set_option maxRecDepth 100000 in
set_option maxHeartbeats 1600000 in
theorem w_rletter (c : UInt8) (w : World) :
    Calls Tryz.prog 65 #[.int .u8 ((c.toNat : Nat) : Int)] w fun e w' => e = .returned (.bool (cLe.contains c)) ∧ w' = w := by
  have ht := letter_tab c
  have hlt := c.toNat_lt
  obtain ⟨x, hx⟩ : ∃ x : Int, ((c.toNat : Nat) : Int) = x := ⟨_, rfl⟩
  rw [hx]
  have hcs : (97 ≤ x ∧ x ≤ 122) ∨ (97 ≤ x ∧ ¬ x ≤ 122 ∧ 65 ≤ x ∧ ¬ x ≤ 90 ∧ ¬ x = 95) ∨ (¬ 97 ≤ x ∧ 65 ≤ x ∧ x ≤ 90) ∨ (¬ 97 ≤ x ∧ 65 ≤ x ∧ ¬ x ≤ 90 ∧ x = 95) ∨ (¬ 97 ≤ x ∧ 65 ≤ x ∧ ¬ x ≤ 90 ∧ ¬ x = 95) ∨ (¬ 97 ≤ x ∧ ¬ 65 ≤ x ∧ ¬ x = 95) := by omega
  rcases hcs with ⟨a, b⟩ | ⟨a, b, d, f, g⟩ | ⟨a, b, d⟩ | ⟨a, b, d, f⟩ | ⟨a, b, d, f⟩ | ⟨a, b, d⟩
  · have HT : cLe.contains c = true := by rw [ht]; exact decide_eq_true (by omega)
    rw [HT]
    clear HT ht hx hlt
    go_enter Tryz.func65, Tryz.ntmps65
    go_wp2_with fail
    go_ret
    exact ⟨by first | rfl | simp [*], rfl⟩
  · have HT : cLe.contains c = false := by rw [ht]; exact decide_eq_false (by omega)
    rw [HT]
    clear HT ht hx hlt
    go_enter Tryz.func65, Tryz.ntmps65
    go_wp2_with fail
    go_ret
    exact ⟨by first | rfl | simp [*], rfl⟩
  · have HT : cLe.contains c = true := by rw [ht]; exact decide_eq_true (by omega)
    rw [HT]
    clear HT ht hx hlt
    go_enter Tryz.func65, Tryz.ntmps65
    go_wp2_with fail
    go_ret
    exact ⟨by first | rfl | simp [*], rfl⟩
  · have HT : cLe.contains c = true := by rw [ht]; exact decide_eq_true (by omega)
    rw [HT]
    subst f
    clear HT ht hx hlt a b d
    go_enter Tryz.func65, Tryz.ntmps65
    go_wp2_with fail
    go_ret
    exact ⟨by first | rfl | simp [*], rfl⟩
  · have HT : cLe.contains c = false := by rw [ht]; exact decide_eq_false (by omega)
    rw [HT]
    clear HT ht hx hlt
    go_enter Tryz.func65, Tryz.ntmps65
    go_wp2_with fail
    go_ret
    exact ⟨by first | rfl | simp [*], rfl⟩
  · have HT : cLe.contains c = false := by rw [ht]; exact decide_eq_false (by omega)
    rw [HT]
    clear HT ht hx hlt
    go_enter Tryz.func65, Tryz.ntmps65
    go_wp2_with fail
    go_ret
    exact ⟨by first | rfl | simp [*], rfl⟩

set_option maxRecDepth 100000 in
set_option maxHeartbeats 3200000 in
theorem w_rmark (c : UInt8) (w : World) :
    Calls Tryz.prog 63 #[.int .u8 ((c.toNat : Nat) : Int)] w fun e w' => e = .returned (.int .i64 ((mkN c : Nat) : Int)) ∧ w' = w := by
  have ht := mk_tab c
  have hlt := c.toNat_lt
  obtain ⟨x, hx⟩ : ∃ x : Int, ((c.toNat : Nat) : Int) = x := ⟨_, rfl⟩
  rw [hx]
  by_cases h1 : x = 123
  · have HT : Hid (mkN c = 1) := by show _ = _; rw [ht, if_pos (by omega)]
    subst h1; clear ht hx hlt
    go_enter Tryz.func63, Tryz.ntmps63
    go_wp2_with fail
    go_ret
    exact ⟨by rw [HT.out]; rfl, rfl⟩
  by_cases h2 : x = 125
  · have HT : Hid (mkN c = 2) := by show _ = _; rw [ht, if_neg (by omega), if_pos (by omega)]
    subst h2; clear ht hx hlt h1
    go_enter Tryz.func63, Tryz.ntmps63
    go_wp2_with fail
    go_ret
    exact ⟨by rw [HT.out]; rfl, rfl⟩
  by_cases h3 : x = 91
  · have HT : Hid (mkN c = 3) := by show _ = _; rw [ht, if_neg (by omega), if_neg (by omega), if_pos (by omega)]
    subst h3; clear ht hx hlt h1 h2
    go_enter Tryz.func63, Tryz.ntmps63
    go_wp2_with fail
    go_ret
    exact ⟨by rw [HT.out]; rfl, rfl⟩
  by_cases h4 : x = 93
  · have HT : Hid (mkN c = 4) := by show _ = _; rw [ht, if_neg (by omega), if_neg (by omega), if_neg (by omega), if_pos (by omega)]
    subst h4; clear ht hx hlt h1 h2 h3
    go_enter Tryz.func63, Tryz.ntmps63
    go_wp2_with fail
    go_ret
    exact ⟨by rw [HT.out]; rfl, rfl⟩
  by_cases h5 : x = 58
  · have HT : Hid (mkN c = 5) := by show _ = _; rw [ht, if_neg (by omega), if_neg (by omega), if_neg (by omega), if_neg (by omega), if_pos (by omega)]
    subst h5; clear ht hx hlt h1 h2 h3 h4
    go_enter Tryz.func63, Tryz.ntmps63
    go_wp2_with fail
    go_ret
    exact ⟨by rw [HT.out]; rfl, rfl⟩
  by_cases h6 : x = 44
  · have HT : Hid (mkN c = 6) := by show _ = _; rw [ht, if_neg (by omega), if_neg (by omega), if_neg (by omega), if_neg (by omega), if_neg (by omega), if_pos (by omega)]
    subst h6; clear ht hx hlt h1 h2 h3 h4 h5
    go_enter Tryz.func63, Tryz.ntmps63
    go_wp2_with fail
    go_ret
    exact ⟨by rw [HT.out]; rfl, rfl⟩
  have HT : Hid (mkN c = 0) := by show _ = _; rw [ht, if_neg (by omega), if_neg (by omega), if_neg (by omega), if_neg (by omega), if_neg (by omega), if_neg (by omega)]
  clear ht hx hlt
  go_enter Tryz.func63, Tryz.ntmps63
  go_wp2_with fail
  go_ret
  exact ⟨by rw [HT.out]; rfl, rfl⟩

/-- the kind of a word, or 0 -/
def wdN (l : List UInt8) : Nat := if l = [110, 117, 108, 108] then 7 else if l = [102, 97, 108, 115, 101] then 8 else if l = [116, 114, 117, 101] then 9 else 0
set_option maxRecDepth 100000 in
set_option maxHeartbeats 3200000 in
theorem w_rword (s : ByteArray) (w : World) :
    Calls Tryz.prog 67 #[.string s] w fun e w' => e = .returned (.int .i64 ((wdN s.data.toList : Nat) : Int)) ∧ w' = w := by
  by_cases h0 : s.data.toList = [110, 117, 108, 108]
  · have HT : Hid (wdN s.data.toList = 7) := by show _ = _; unfold wdN; rw [if_pos h0]
    have hb0 : (s.toList == [110, 117, 108, 108]) = true := by rw [Lib.toList_data, h0]; rfl
    clear h0
    go_enter Tryz.func67, Tryz.ntmps67
    go_wp2_with fail
    go_ret
    exact ⟨by rw [HT.out]; rfl, rfl⟩
  have hb0 : (s.toList == [110, 117, 108, 108]) = false := by rw [Lib.toList_data, beq_eq_false_iff_ne]; exact h0
  by_cases h1 : s.data.toList = [102, 97, 108, 115, 101]
  · have HT : Hid (wdN s.data.toList = 8) := by show _ = _; unfold wdN; rw [if_neg h0, if_pos h1]
    have hb1 : (s.toList == [102, 97, 108, 115, 101]) = true := by rw [Lib.toList_data, h1]; rfl
    clear h0 h1
    go_enter Tryz.func67, Tryz.ntmps67
    go_wp2_with fail
    go_ret
    exact ⟨by rw [HT.out]; rfl, rfl⟩
  have hb1 : (s.toList == [102, 97, 108, 115, 101]) = false := by rw [Lib.toList_data, beq_eq_false_iff_ne]; exact h1
  by_cases h2 : s.data.toList = [116, 114, 117, 101]
  · have HT : Hid (wdN s.data.toList = 9) := by show _ = _; unfold wdN; rw [if_neg h0, if_neg h1, if_pos h2]
    have hb2 : (s.toList == [116, 114, 117, 101]) = true := by rw [Lib.toList_data, h2]; rfl
    clear h0 h1 h2
    go_enter Tryz.func67, Tryz.ntmps67
    go_wp2_with fail
    go_ret
    exact ⟨by rw [HT.out]; rfl, rfl⟩
  have HT : Hid (wdN s.data.toList = 0) := by show _ = _; unfold wdN; rw [if_neg h0, if_neg h1, if_neg h2]
  have hb2 : (s.toList == [116, 114, 117, 101]) = false := by rw [Lib.toList_data, beq_eq_false_iff_ne]; exact h2
  clear h0 h1 h2
  go_enter Tryz.func67, Tryz.ntmps67
  go_wp2_with fail
  go_ret
  exact ⟨by rw [HT.out]; rfl, rfl⟩
end Go.Proofs.YtdehejadiofomaaGreatDoor
