import Derived.Test.YtdjleoglphgdgaaGreatDoorM24
import Derived.Shelf.Strings.SlTrimAscii
import Derived.Deep.QuietTactic
import Derived.BigQuiet
namespace Go.Proofs.YtdjleoglphgdgaaGreatDoor
open Go.RowKit
set_option linter.unusedVariables false
set_option linter.unusedSimpArgs false

theorem size_lst (s : ByteArray) : s.data.toList.length = s.size := by rw [Array.length_toList]; rfl
theorem extract_lst (s : ByteArray) (a b : Nat) (hb : b ≤ s.size) : (s.extract a b).data.toList = cut s.data.toList a b := by
  rw [Lib.extract_data]; rfl

theorem getD_byte {s : ByteArray} {p : Nat} (h : p < s.size) : s.data.toList.getD p 0 = s[p] := by
  rw [← byte_eq s p h]
  have : p < s.data.toList.length := by rw [size_lst]; exact h
  rw [List.getD, List.getElem?_eq_getElem this]; rfl

theorem frozen_rowT {w : World} {B j : Nat} {cs : Array Value} {t : TypeId} (h : w.heap[B]? = some (.cells cs t (0, 0))) : w.frozen? ⟨B, j, none⟩ = false := by simp [World.frozen?, h]
theorem heap_lowT {w w' : World} {n : Nat} (hb : Below n w w') {b : Nat} {o : Obj} (hlt : b < n) (h : w.heap[b]? = some o) : w'.heap[b]? = some o := (hb.block b hlt).trans h
end Go.Proofs.YtdjleoglphgdgaaGreatDoor
namespace Go.Proofs.YtdjleoglphgdgaaGreatDoor
open Go.RowKit
set_option linter.unusedVariables false
set_option linter.unusedSimpArgs false

set_option maxRecDepth 100000 in
set_option maxHeartbeats 1600000 in
theorem w_wBlank (c : UInt8) (w : World) :
    Calls Tryz.prog 95 #[.int .u8 ((c.toNat : Nat) : Int)] w fun e w' => e = .returned (.bool (blB c)) ∧ w' = w := by
  have ht : ∀ b, blB c = b → blB c = b := fun _ h => h
  unfold blB at ht
  have hlt := c.toNat_lt
  obtain ⟨x, hx⟩ : ∃ x : Int, ((c.toNat : Nat) : Int) = x := ⟨_, rfl⟩
  rw [hx]
  have hcs : (x = 32) ∨ (x = 9) ∨ (x = 10) ∨ (x = 13) ∨ (¬ x = 32 ∧ ¬ x = 9 ∧ ¬ x = 10 ∧ ¬ x = 13) := by omega
  rcases hcs with q0 | q0 | q0 | q0 | ⟨q0, q1, q2, q3⟩
  · have HT : blB c = true := by unfold blB; exact decide_eq_true (by omega)
    rw [HT]
    subst q0
    clear HT ht hx hlt
    go_enter Tryz.func95, Tryz.ntmps95
    go_wp2_with fail
    go_ret
    exact ⟨by first | rfl | simp [*], rfl⟩
  · have HT : blB c = true := by unfold blB; exact decide_eq_true (by omega)
    rw [HT]
    subst q0
    clear HT ht hx hlt
    go_enter Tryz.func95, Tryz.ntmps95
    go_wp2_with fail
    go_ret
    exact ⟨by first | rfl | simp [*], rfl⟩
  · have HT : blB c = true := by unfold blB; exact decide_eq_true (by omega)
    rw [HT]
    subst q0
    clear HT ht hx hlt
    go_enter Tryz.func95, Tryz.ntmps95
    go_wp2_with fail
    go_ret
    exact ⟨by first | rfl | simp [*], rfl⟩
  · have HT : blB c = true := by unfold blB; exact decide_eq_true (by omega)
    rw [HT]
    subst q0
    clear HT ht hx hlt
    go_enter Tryz.func95, Tryz.ntmps95
    go_wp2_with fail
    go_ret
    exact ⟨by first | rfl | simp [*], rfl⟩
  · have HT : blB c = false := by unfold blB; exact decide_eq_false (by omega)
    rw [HT]
    clear HT ht hx hlt
    go_enter Tryz.func95, Tryz.ntmps95
    go_wp2_with fail
    go_ret
    exact ⟨by first | rfl | simp [*], rfl⟩

set_option maxRecDepth 100000 in
set_option maxHeartbeats 1600000 in
theorem w_wDigit (c : UInt8) (w : World) :
    Calls Tryz.prog 101 #[.int .u8 ((c.toNat : Nat) : Int)] w fun e w' => e = .returned (.bool (dgB c)) ∧ w' = w := by
  have ht : ∀ b, dgB c = b → dgB c = b := fun _ h => h
  unfold dgB at ht
  have hlt := c.toNat_lt
  obtain ⟨x, hx⟩ : ∃ x : Int, ((c.toNat : Nat) : Int) = x := ⟨_, rfl⟩
  rw [hx]
  have hcs : (48 ≤ x ∧ x ≤ 57) ∨ (48 ≤ x ∧ ¬ x ≤ 57) ∨ (¬ 48 ≤ x ∧ x ≤ 57) := by omega
  rcases hcs with ⟨q0, q1⟩ | ⟨q0, q1⟩ | ⟨q0, q1⟩
  · have HT : dgB c = true := by unfold dgB; exact decide_eq_true (by omega)
    rw [HT]
    clear HT ht hx hlt
    go_enter Tryz.func101, Tryz.ntmps101
    go_wp2_with fail
    go_ret
    exact ⟨by first | rfl | simp [*], rfl⟩
  · have HT : dgB c = false := by unfold dgB; exact decide_eq_false (by omega)
    rw [HT]
    clear HT ht hx hlt
    go_enter Tryz.func101, Tryz.ntmps101
    go_wp2_with fail
    go_ret
    exact ⟨by first | rfl | simp [*], rfl⟩
  · have HT : dgB c = false := by unfold dgB; exact decide_eq_false (by omega)
    rw [HT]
    clear HT ht hx hlt
    go_enter Tryz.func101, Tryz.ntmps101
    go_wp2_with fail
    go_ret
    exact ⟨by first | rfl | simp [*], rfl⟩

set_option maxRecDepth 100000 in
set_option maxHeartbeats 1600000 in
theorem w_wLetter (c : UInt8) (w : World) :
    Calls Tryz.prog 97 #[.int .u8 ((c.toNat : Nat) : Int)] w fun e w' => e = .returned (.bool (leB c)) ∧ w' = w := by
  have ht : ∀ b, leB c = b → leB c = b := fun _ h => h
  unfold leB at ht
  have hlt := c.toNat_lt
  obtain ⟨x, hx⟩ : ∃ x : Int, ((c.toNat : Nat) : Int) = x := ⟨_, rfl⟩
  rw [hx]
  have hcs : (97 ≤ x ∧ x ≤ 122) ∨ (97 ≤ x ∧ ¬ x ≤ 122 ∧ 65 ≤ x ∧ ¬ x ≤ 90 ∧ ¬ x = 95) ∨ (¬ 97 ≤ x ∧ 65 ≤ x ∧ x ≤ 90) ∨ (¬ 97 ≤ x ∧ 65 ≤ x ∧ ¬ x ≤ 90 ∧ x = 95) ∨ (¬ 97 ≤ x ∧ 65 ≤ x ∧ ¬ x ≤ 90 ∧ ¬ x = 95) ∨ (¬ 97 ≤ x ∧ ¬ 65 ≤ x ∧ ¬ x = 95) := by omega
  rcases hcs with ⟨q0, q1⟩ | ⟨q0, q1, q2, q3, q4⟩ | ⟨q0, q1, q2⟩ | ⟨q0, q1, q2, q3⟩ | ⟨q0, q1, q2, q3⟩ | ⟨q0, q1, q2⟩
  · have HT : leB c = true := by unfold leB; exact decide_eq_true (by omega)
    rw [HT]
    clear HT ht hx hlt
    go_enter Tryz.func97, Tryz.ntmps97
    go_wp2_with fail
    go_ret
    exact ⟨by first | rfl | simp [*], rfl⟩
  · have HT : leB c = false := by unfold leB; exact decide_eq_false (by omega)
    rw [HT]
    clear HT ht hx hlt
    go_enter Tryz.func97, Tryz.ntmps97
    go_wp2_with fail
    go_ret
    exact ⟨by first | rfl | simp [*], rfl⟩
  · have HT : leB c = true := by unfold leB; exact decide_eq_true (by omega)
    rw [HT]
    clear HT ht hx hlt
    go_enter Tryz.func97, Tryz.ntmps97
    go_wp2_with fail
    go_ret
    exact ⟨by first | rfl | simp [*], rfl⟩
  · have HT : leB c = true := by unfold leB; exact decide_eq_true (by omega)
    rw [HT]
    subst q3
    clear HT ht hx hlt q0 q1 q2
    go_enter Tryz.func97, Tryz.ntmps97
    go_wp2_with fail
    go_ret
    exact ⟨by first | rfl | simp [*], rfl⟩
  · have HT : leB c = false := by unfold leB; exact decide_eq_false (by omega)
    rw [HT]
    clear HT ht hx hlt
    go_enter Tryz.func97, Tryz.ntmps97
    go_wp2_with fail
    go_ret
    exact ⟨by first | rfl | simp [*], rfl⟩
  · have HT : leB c = false := by unfold leB; exact decide_eq_false (by omega)
    rw [HT]
    clear HT ht hx hlt
    go_enter Tryz.func97, Tryz.ntmps97
    go_wp2_with fail
    go_ret
    exact ⟨by first | rfl | simp [*], rfl⟩

set_option maxRecDepth 100000 in
set_option maxHeartbeats 1600000 in
theorem w_wInName (c : UInt8) (w : World) :
    Calls Tryz.prog 125 #[.int .u8 ((c.toNat : Nat) : Int)] w fun e w' => e = .returned (.bool (inB c)) ∧ w' = w := by
  have H1 := Hid.mk (fun u => w_wLetter c u)
  have H2 := Hid.mk (fun u => w_wDigit c u)
  unfold inB
  cases h1 : leB c with
  | true =>
    rw [h1] at H1
    clear h1 H2
    rw [Bool.true_or]
    generalize ((c.toNat : Nat) : Int) = x at *
    go_enter Tryz.func125, Tryz.ntmps125
    go_wp2_with fail
    refine (H1.out _).mono ?_
    rintro e w1 ⟨rfl, rfl⟩
    go_wp2_with fail
    go_ret
    exact ⟨rfl, rfl⟩
  | false =>
    rw [h1] at H1
    clear h1
    rw [Bool.false_or]
    generalize dgB c = b2 at *
    generalize ((c.toNat : Nat) : Int) = x at *
    go_enter Tryz.func125, Tryz.ntmps125
    go_wp2_with fail
    refine (H1.out _).mono ?_
    rintro e w1 ⟨rfl, rfl⟩
    go_wp2_with fail
    refine (H2.out _).mono ?_
    rintro e w1 ⟨rfl, rfl⟩
    go_wp2_with fail
    go_ret
    exact ⟨rfl, rfl⟩

end Go.Proofs.YtdjleoglphgdgaaGreatDoor
namespace Go.Proofs.YtdjleoglphgdgaaGreatDoor
open Go.RowKit
set_option linter.unusedVariables false
set_option linter.unusedSimpArgs false

set_option maxRecDepth 100000 in
set_option maxHeartbeats 1600000 in
theorem w_bhBlank (s : ByteArray) (p : Nat) (w : World) (hp : p ≤ s.size) (hs : s.size ≤ 140737488355328) :
    Calls Tryz.prog 94 #[.string s, .int .i64 (p : Int), .func (.func 95) #[] #[]] w fun e w' => e = .returned (.int .i64 ((bhP blB s.data.toList p : Nat) : Int)) ∧ w' = w := by
  obtain ⟨l, hl⟩ : ∃ l, l = s.data.toList := ⟨_, rfl⟩
  have HL : Hid (l.length = s.size) := by show _ = _; rw [hl]; exact size_lst s
  have HG : Hid (∀ q (h : q < s.size), l.getD q 0 = s[q]) := fun q h => by rw [hl]; exact getD_byte h
  rw [← hl]
  clear hl
  go_enter Tryz.func94, Tryz.ntmps94
  go_wp2_with fail
  go_loopw [1] (fun a wr => ∃ q : Nat, q ≤ s.size ∧ a = .int .i64 (q : Int) ∧ Hid (bhP blB l p = bhP blB l q) ∧ wr = w) (fun a _ => s.size - (intOf a).toNat)
  case atStart => exact ⟨p, hp, rfl, rfl, rfl⟩
  case round =>
    obtain ⟨q, hq, rfl, HQ, rfl⟩ := hrel
    by_cases hlt : q < s.size
    · have hi1 : (q : Int) < (s.size : Int) := by omega
      have hi0 : (0 : Int) ≤ (q : Int) := by omega
      have hi2 : ¬ (s.size : Int) ≤ (q : Int) := by omega
      have hc := fun u => w_wBlank s[q] u
      have hst := bhP_step (P := blB) (l := l) (p := q) (by rw [HL.out]; exact hlt)
      have hsp := bhP_stop (P := blB) (l := l) (p := q) (by rw [HL.out]; exact hlt)
      rw [HG.out q hlt] at hst hsp
      cases h1 : blB s[q] with
      | true =>
        rw [h1] at hc hst
        have HC := Hid.mk hc
        have HST := Hid.mk (hst rfl)
        clear hst hsp hc h1
        go_wp2_with fail
        refine (HC.out _).mono ?_
        rintro e w1 ⟨rfl, rfl⟩
        go_wp2_with fail
        go_roundw
        case rel => exact ⟨q + 1, by omega, by go_num, HQ.out.trans HST.out, by first | rfl | trivial⟩
        case measure => simp [intOf]; omega
      | false =>
        rw [h1] at hc hsp
        have HC := Hid.mk hc
        have HSP := Hid.mk (HQ.out.trans (hsp rfl))
        clear hst hsp hc h1
        go_wp2_with fail
        refine (HC.out _).mono ?_
        rintro e w1 ⟨rfl, rfl⟩
        go_wp2_with fail
        go_ret
        exact ⟨by rw [HSP.out]; first | done | rfl, rfl⟩
    · have hi1 : ¬ (q : Int) < (s.size : Int) := by omega
      have HE : Hid (bhP blB l p = q) := by
        show _ = _
        rw [HQ.out, show q = l.length by rw [HL.out]; omega, bhP_end]
      go_wp2_with fail
      go_ret
      exact ⟨by rw [HE.out]; first | done | rfl, rfl⟩

set_option maxRecDepth 100000 in
set_option maxHeartbeats 1600000 in
theorem w_bhName (s : ByteArray) (p : Nat) (w : World) (hp : p ≤ s.size) (hs : s.size ≤ 140737488355328) :
    Calls Tryz.prog 94 #[.string s, .int .i64 (p : Int), .func (.func 125) #[] #[]] w fun e w' => e = .returned (.int .i64 ((bhP inB s.data.toList p : Nat) : Int)) ∧ w' = w := by
  obtain ⟨l, hl⟩ : ∃ l, l = s.data.toList := ⟨_, rfl⟩
  have HL : Hid (l.length = s.size) := by show _ = _; rw [hl]; exact size_lst s
  have HG : Hid (∀ q (h : q < s.size), l.getD q 0 = s[q]) := fun q h => by rw [hl]; exact getD_byte h
  rw [← hl]
  clear hl
  go_enter Tryz.func94, Tryz.ntmps94
  go_wp2_with fail
  go_loopw [1] (fun a wr => ∃ q : Nat, q ≤ s.size ∧ a = .int .i64 (q : Int) ∧ Hid (bhP inB l p = bhP inB l q) ∧ wr = w) (fun a _ => s.size - (intOf a).toNat)
  case atStart => exact ⟨p, hp, rfl, rfl, rfl⟩
  case round =>
    obtain ⟨q, hq, rfl, HQ, rfl⟩ := hrel
    by_cases hlt : q < s.size
    · have hi1 : (q : Int) < (s.size : Int) := by omega
      have hi0 : (0 : Int) ≤ (q : Int) := by omega
      have hi2 : ¬ (s.size : Int) ≤ (q : Int) := by omega
      have hc := fun u => w_wInName s[q] u
      have hst := bhP_step (P := inB) (l := l) (p := q) (by rw [HL.out]; exact hlt)
      have hsp := bhP_stop (P := inB) (l := l) (p := q) (by rw [HL.out]; exact hlt)
      rw [HG.out q hlt] at hst hsp
      cases h1 : inB s[q] with
      | true =>
        rw [h1] at hc hst
        have HC := Hid.mk hc
        have HST := Hid.mk (hst rfl)
        clear hst hsp hc h1
        go_wp2_with fail
        refine (HC.out _).mono ?_
        rintro e w1 ⟨rfl, rfl⟩
        go_wp2_with fail
        go_roundw
        case rel => exact ⟨q + 1, by omega, by go_num, HQ.out.trans HST.out, by first | rfl | trivial⟩
        case measure => simp [intOf]; omega
      | false =>
        rw [h1] at hc hsp
        have HC := Hid.mk hc
        have HSP := Hid.mk (HQ.out.trans (hsp rfl))
        clear hst hsp hc h1
        go_wp2_with fail
        refine (HC.out _).mono ?_
        rintro e w1 ⟨rfl, rfl⟩
        go_wp2_with fail
        go_ret
        exact ⟨by rw [HSP.out]; first | done | rfl, rfl⟩
    · have hi1 : ¬ (q : Int) < (s.size : Int) := by omega
      have HE : Hid (bhP inB l p = q) := by
        show _ = _
        rw [HQ.out, show q = l.length by rw [HL.out]; omega, bhP_end]
      go_wp2_with fail
      go_ret
      exact ⟨by rw [HE.out]; first | done | rfl, rfl⟩

end Go.Proofs.YtdjleoglphgdgaaGreatDoor
namespace Go.Proofs.YtdjleoglphgdgaaGreatDoor
open Go.RowKit
set_option linter.unusedVariables false
set_option linter.unusedSimpArgs false

set_option maxRecDepth 100000 in
set_option maxHeartbeats 6400000 in
theorem w_wOwn (n : ByteArray) (w : World) :
    Calls Tryz.prog 146 #[.string n] w fun e w' => e = .returned (.bool (ownB n.data.toList)) ∧ w' = w := by
  by_cases h0 : n.data.toList = [100, 101, 102]
  · have HT : ownB n.data.toList = true := by rw [h0]; decide
    rw [HT]
    have g0 : (n.toList == [100, 101, 102]) = true := by rw [Lib.toList_data, h0]; rfl
    clear HT h0
    go_enter Tryz.func146, Tryz.ntmps146
    go_wp2_with fail
    go_ret
    exact ⟨rfl, rfl⟩
  have g0 : (n.toList == [100, 101, 102]) = false := by rw [Lib.toList_data, beq_eq_false_iff_ne]; exact h0
  have b0 := beq_eq_false_iff_ne.2 h0
  clear h0
  by_cases h1 : n.data.toList = [105, 102]
  · have HT : ownB n.data.toList = true := by rw [h1]; decide
    rw [HT]
    have g1 : (n.toList == [105, 102]) = true := by rw [Lib.toList_data, h1]; rfl
    clear HT h1
    go_enter Tryz.func146, Tryz.ntmps146
    go_wp2_with fail
    go_ret
    exact ⟨rfl, rfl⟩
  have g1 : (n.toList == [105, 102]) = false := by rw [Lib.toList_data, beq_eq_false_iff_ne]; exact h1
  have b1 := beq_eq_false_iff_ne.2 h1
  clear h1
  by_cases h2 : n.data.toList = [116, 104, 101, 110]
  · have HT : ownB n.data.toList = true := by rw [h2]; decide
    rw [HT]
    have g2 : (n.toList == [116, 104, 101, 110]) = true := by rw [Lib.toList_data, h2]; rfl
    clear HT h2
    go_enter Tryz.func146, Tryz.ntmps146
    go_wp2_with fail
    go_ret
    exact ⟨rfl, rfl⟩
  have g2 : (n.toList == [116, 104, 101, 110]) = false := by rw [Lib.toList_data, beq_eq_false_iff_ne]; exact h2
  have b2 := beq_eq_false_iff_ne.2 h2
  clear h2
  by_cases h3 : n.data.toList = [101, 108, 105, 102]
  · have HT : ownB n.data.toList = true := by rw [h3]; decide
    rw [HT]
    have g3 : (n.toList == [101, 108, 105, 102]) = true := by rw [Lib.toList_data, h3]; rfl
    clear HT h3
    go_enter Tryz.func146, Tryz.ntmps146
    go_wp2_with fail
    go_ret
    exact ⟨rfl, rfl⟩
  have g3 : (n.toList == [101, 108, 105, 102]) = false := by rw [Lib.toList_data, beq_eq_false_iff_ne]; exact h3
  have b3 := beq_eq_false_iff_ne.2 h3
  clear h3
  by_cases h4 : n.data.toList = [101, 108, 115, 101]
  · have HT : ownB n.data.toList = true := by rw [h4]; decide
    rw [HT]
    have g4 : (n.toList == [101, 108, 115, 101]) = true := by rw [Lib.toList_data, h4]; rfl
    clear HT h4
    go_enter Tryz.func146, Tryz.ntmps146
    go_wp2_with fail
    go_ret
    exact ⟨rfl, rfl⟩
  have g4 : (n.toList == [101, 108, 115, 101]) = false := by rw [Lib.toList_data, beq_eq_false_iff_ne]; exact h4
  have b4 := beq_eq_false_iff_ne.2 h4
  clear h4
  by_cases h5 : n.data.toList = [101, 110, 100]
  · have HT : ownB n.data.toList = true := by rw [h5]; decide
    rw [HT]
    have g5 : (n.toList == [101, 110, 100]) = true := by rw [Lib.toList_data, h5]; rfl
    clear HT h5
    go_enter Tryz.func146, Tryz.ntmps146
    go_wp2_with fail
    go_ret
    exact ⟨rfl, rfl⟩
  have g5 : (n.toList == [101, 110, 100]) = false := by rw [Lib.toList_data, beq_eq_false_iff_ne]; exact h5
  have b5 := beq_eq_false_iff_ne.2 h5
  clear h5
  by_cases h6 : n.data.toList = [97, 115]
  · have HT : ownB n.data.toList = true := by rw [h6]; decide
    rw [HT]
    have g6 : (n.toList == [97, 115]) = true := by rw [Lib.toList_data, h6]; rfl
    clear HT h6
    go_enter Tryz.func146, Tryz.ntmps146
    go_wp2_with fail
    go_ret
    exact ⟨rfl, rfl⟩
  have g6 : (n.toList == [97, 115]) = false := by rw [Lib.toList_data, beq_eq_false_iff_ne]; exact h6
  have b6 := beq_eq_false_iff_ne.2 h6
  clear h6
  by_cases h7 : n.data.toList = [114, 101, 100, 117, 99, 101]
  · have HT : ownB n.data.toList = true := by rw [h7]; decide
    rw [HT]
    have g7 : (n.toList == [114, 101, 100, 117, 99, 101]) = true := by rw [Lib.toList_data, h7]; rfl
    clear HT h7
    go_enter Tryz.func146, Tryz.ntmps146
    go_wp2_with fail
    go_ret
    exact ⟨rfl, rfl⟩
  have g7 : (n.toList == [114, 101, 100, 117, 99, 101]) = false := by rw [Lib.toList_data, beq_eq_false_iff_ne]; exact h7
  have b7 := beq_eq_false_iff_ne.2 h7
  clear h7
  by_cases h8 : n.data.toList = [102, 111, 114, 101, 97, 99, 104]
  · have HT : ownB n.data.toList = true := by rw [h8]; decide
    rw [HT]
    have g8 : (n.toList == [102, 111, 114, 101, 97, 99, 104]) = true := by rw [Lib.toList_data, h8]; rfl
    clear HT h8
    go_enter Tryz.func146, Tryz.ntmps146
    go_wp2_with fail
    go_ret
    exact ⟨rfl, rfl⟩
  have g8 : (n.toList == [102, 111, 114, 101, 97, 99, 104]) = false := by rw [Lib.toList_data, beq_eq_false_iff_ne]; exact h8
  have b8 := beq_eq_false_iff_ne.2 h8
  clear h8
  by_cases h9 : n.data.toList = [116, 114, 121]
  · have HT : ownB n.data.toList = true := by rw [h9]; decide
    rw [HT]
    have g9 : (n.toList == [116, 114, 121]) = true := by rw [Lib.toList_data, h9]; rfl
    clear HT h9
    go_enter Tryz.func146, Tryz.ntmps146
    go_wp2_with fail
    go_ret
    exact ⟨rfl, rfl⟩
  have g9 : (n.toList == [116, 114, 121]) = false := by rw [Lib.toList_data, beq_eq_false_iff_ne]; exact h9
  have b9 := beq_eq_false_iff_ne.2 h9
  clear h9
  by_cases h10 : n.data.toList = [99, 97, 116, 99, 104]
  · have HT : ownB n.data.toList = true := by rw [h10]; decide
    rw [HT]
    have g10 : (n.toList == [99, 97, 116, 99, 104]) = true := by rw [Lib.toList_data, h10]; rfl
    clear HT h10
    go_enter Tryz.func146, Tryz.ntmps146
    go_wp2_with fail
    go_ret
    exact ⟨rfl, rfl⟩
  have g10 : (n.toList == [99, 97, 116, 99, 104]) = false := by rw [Lib.toList_data, beq_eq_false_iff_ne]; exact h10
  have b10 := beq_eq_false_iff_ne.2 h10
  clear h10
  by_cases h11 : n.data.toList = [97, 110, 100]
  · have HT : ownB n.data.toList = true := by rw [h11]; decide
    rw [HT]
    have g11 : (n.toList == [97, 110, 100]) = true := by rw [Lib.toList_data, h11]; rfl
    clear HT h11
    go_enter Tryz.func146, Tryz.ntmps146
    go_wp2_with fail
    go_ret
    exact ⟨rfl, rfl⟩
  have g11 : (n.toList == [97, 110, 100]) = false := by rw [Lib.toList_data, beq_eq_false_iff_ne]; exact h11
  have b11 := beq_eq_false_iff_ne.2 h11
  clear h11
  by_cases h12 : n.data.toList = [111, 114]
  · have HT : ownB n.data.toList = true := by rw [h12]; decide
    rw [HT]
    have g12 : (n.toList == [111, 114]) = true := by rw [Lib.toList_data, h12]; rfl
    clear HT h12
    go_enter Tryz.func146, Tryz.ntmps146
    go_wp2_with fail
    go_ret
    exact ⟨rfl, rfl⟩
  have g12 : (n.toList == [111, 114]) = false := by rw [Lib.toList_data, beq_eq_false_iff_ne]; exact h12
  have b12 := beq_eq_false_iff_ne.2 h12
  clear h12
  by_cases h13 : n.data.toList = [108, 97, 98, 101, 108]
  · have HT : ownB n.data.toList = true := by rw [h13]; decide
    rw [HT]
    have g13 : (n.toList == [108, 97, 98, 101, 108]) = true := by rw [Lib.toList_data, h13]; rfl
    clear HT h13
    go_enter Tryz.func146, Tryz.ntmps146
    go_wp2_with fail
    go_ret
    exact ⟨rfl, rfl⟩
  have g13 : (n.toList == [108, 97, 98, 101, 108]) = false := by rw [Lib.toList_data, beq_eq_false_iff_ne]; exact h13
  have b13 := beq_eq_false_iff_ne.2 h13
  clear h13
  by_cases h14 : n.data.toList = [98, 114, 101, 97, 107]
  · have HT : ownB n.data.toList = true := by rw [h14]; decide
    rw [HT]
    have g14 : (n.toList == [98, 114, 101, 97, 107]) = true := by rw [Lib.toList_data, h14]; rfl
    clear HT h14
    go_enter Tryz.func146, Tryz.ntmps146
    go_wp2_with fail
    go_ret
    exact ⟨rfl, rfl⟩
  have g14 : (n.toList == [98, 114, 101, 97, 107]) = false := by rw [Lib.toList_data, beq_eq_false_iff_ne]; exact h14
  have b14 := beq_eq_false_iff_ne.2 h14
  clear h14
  by_cases h15 : n.data.toList = [110, 117, 108, 108]
  · have HT : ownB n.data.toList = true := by rw [h15]; decide
    rw [HT]
    have g15 : (n.toList == [110, 117, 108, 108]) = true := by rw [Lib.toList_data, h15]; rfl
    clear HT h15
    go_enter Tryz.func146, Tryz.ntmps146
    go_wp2_with fail
    go_ret
    exact ⟨rfl, rfl⟩
  have g15 : (n.toList == [110, 117, 108, 108]) = false := by rw [Lib.toList_data, beq_eq_false_iff_ne]; exact h15
  have b15 := beq_eq_false_iff_ne.2 h15
  clear h15
  by_cases h16 : n.data.toList = [116, 114, 117, 101]
  · have HT : ownB n.data.toList = true := by rw [h16]; decide
    rw [HT]
    have g16 : (n.toList == [116, 114, 117, 101]) = true := by rw [Lib.toList_data, h16]; rfl
    clear HT h16
    go_enter Tryz.func146, Tryz.ntmps146
    go_wp2_with fail
    go_ret
    exact ⟨rfl, rfl⟩
  have g16 : (n.toList == [116, 114, 117, 101]) = false := by rw [Lib.toList_data, beq_eq_false_iff_ne]; exact h16
  have b16 := beq_eq_false_iff_ne.2 h16
  clear h16
  by_cases h17 : n.data.toList = [102, 97, 108, 115, 101]
  · have HT : ownB n.data.toList = true := by rw [h17]; decide
    rw [HT]
    have g17 : (n.toList == [102, 97, 108, 115, 101]) = true := by rw [Lib.toList_data, h17]; rfl
    clear HT h17
    go_enter Tryz.func146, Tryz.ntmps146
    go_wp2_with fail
    go_ret
    exact ⟨rfl, rfl⟩
  have g17 : (n.toList == [102, 97, 108, 115, 101]) = false := by rw [Lib.toList_data, beq_eq_false_iff_ne]; exact h17
  have b17 := beq_eq_false_iff_ne.2 h17
  clear h17
  have HT : ownB n.data.toList = false := by
    unfold ownB
    simp only [ownL, List.cons_append, List.nil_append, List.contains_cons, List.contains_nil, b0, b1, b2, b3, b4, b5, b6, b7, b8, b9, b10, b11, b12, b13, b14, b15, b16, b17, Bool.or_false]
  rw [HT]
  clear HT b0 b1 b2 b3 b4 b5 b6 b7 b8 b9 b10 b11 b12 b13 b14 b15 b16 b17
  go_enter Tryz.func146, Tryz.ntmps146
  go_wp2_with fail
  go_ret
  exact ⟨rfl, rfl⟩

end Go.Proofs.YtdjleoglphgdgaaGreatDoor
namespace Go.Proofs.YtdjleoglphgdgaaGreatDoor
open Go.RowKit
set_option linter.unusedVariables false
set_option linter.unusedSimpArgs false

theorem ext_cut (s : ByteArray) (a b : Nat) (hb : b ≤ s.size) : s.extract a b = ⟨(cut s.data.toList a b).toArray⟩ := by
  have h := extract_lst s a b hb
  have e : (s.extract a b).data = (cut s.data.toList a b).toArray := by rw [← h]
  cases hx : s.extract a b with
  | mk d => rw [hx] at e; exact congrArg ByteArray.mk e
theorem cut_len {l : List UInt8} {a b : Nat} (hb : b ≤ l.length) : (cut l a b).length = b - a := by unfold cut; simp; omega
theorem nameW_len {l : List UInt8} {p : Nat} (hp : p ≤ l.length) : p + (nameW l p).length ≤ l.length := by
  unfold nameW
  split
  · next h =>
    have := bhP_ge inB hp
    rw [cut_len this.2]; omega
  · simpa using hp

set_option maxRecDepth 100000 in
set_option maxHeartbeats 1600000 in
theorem w_nameAt (s : ByteArray) (p : Nat) (w : World) (hp : p ≤ s.size) (hs : s.size ≤ 140737488355328) :
    Calls Tryz.prog 64 #[.string s, .int .i64 (p : Int)] w fun e w' => e = .returned (.string ⟨(nameW s.data.toList p).toArray⟩) ∧ w' = w := by
  by_cases he : p = s.size
  · have HN : Hid (nameW s.data.toList p = []) := by show _ = _; unfold nameW; rw [if_neg (by rw [size_lst]; omega)]
    have hq : ((p : Int) == (s.size : Int)) = true := by rw [he]; simp
    clear he
    go_enter Tryz.func64, Tryz.ntmps64
    go_wp2_with fail
    go_ret
    exact ⟨by rw [HN.out]; first | done | rfl, rfl⟩
  · have hlt : p < s.size := by omega
    have hq : ((p : Int) == (s.size : Int)) = false := by rw [beq_eq_false_iff_ne]; omega
    have hi0 : (0 : Int) ≤ (p : Int) := by omega
    have hi1 : (p : Int) < (s.size : Int) := by omega
    have hc := fun u => w_wLetter s[p] u
    have hd := getD_byte hlt
    cases h1 : leB s[p] with
    | false =>
      rw [h1] at hc
      have HC := Hid.mk hc
      have HN : Hid (nameW s.data.toList p = []) := by show _ = _; unfold nameW; rw [if_neg (by rw [hd, h1]; simp)]
      clear he hc hd h1
      go_enter Tryz.func64, Tryz.ntmps64
      go_wp2_with fail
      refine (HC.out _).mono ?_
      rintro e w1 ⟨rfl, hw1⟩
      obtain rfl := hw1.symm
      go_wp2_with fail
      go_ret
      exact ⟨by rw [HN.out]; first | done | rfl, rfl⟩
    | true =>
      rw [h1] at hc
      have HC := Hid.mk hc
      have HBh := Hid.mk (fun u => w_bhName s p u hp hs)
      have hbe := bhP_ge inB (l := s.data.toList) (p := p) (by rw [size_lst]; omega)
      have HN : Hid (nameW s.data.toList p = cut s.data.toList p (bhP inB s.data.toList p)) := by show _ = _; unfold nameW; rw [if_pos ⟨by rw [size_lst]; exact hlt, by rw [hd, h1]⟩]
      have HX := Hid.mk (ext_cut s p (bhP inB s.data.toList p) (by rw [← size_lst]; exact hbe.2))
      rw [size_lst] at hbe
      generalize bhP inB s.data.toList p = q at *
      obtain ⟨hpq, hqs⟩ := hbe
      have hj1 : (p : Int) ≤ (q : Int) := by omega
      have hj2 : (q : Int) ≤ (s.size : Int) := by omega
      clear he hc hd h1
      go_enter Tryz.func64, Tryz.ntmps64
      go_wp2_with fail
      refine (HC.out _).mono ?_
      rintro e w1 ⟨rfl, hw1⟩
      obtain rfl := hw1.symm
      go_wp2_with fail
      refine (HBh.out _).mono ?_
      rintro e w1 ⟨rfl, hw1⟩
      obtain rfl := hw1.symm
      go_wp2_with fail
      go_ret
      exact ⟨by rw [HN.out, ← HX.out]; first | done | rfl, rfl⟩

theorem named_lst (s : ByteArray) : namedB s.data.toList = (!(s.toList == []) && ((⟨(nameW s.data.toList 0).toArray⟩ : ByteArray).toList == s.toList)) := by
  unfold namedB
  rw [Lib.toList_data, Lib.toList_data]
  show _ = (!(s.data.toList == []) && (nameW s.data.toList 0 == s.data.toList))
  generalize s.data.toList = l
  by_cases h1 : l = []
  · subst h1; simp
  · by_cases h2 : nameW l 0 = l
    · rw [decide_eq_true ⟨h1, h2⟩, h2, beq_eq_false_iff_ne.2 h1]; simp
    · rw [decide_eq_false (fun h => h2 h.2), beq_eq_false_iff_ne.2 h2]; simp

set_option maxRecDepth 100000 in
set_option maxHeartbeats 1600000 in
theorem w_Named (s : ByteArray) (w : World) (hs : s.size ≤ 140737488355328) :
    Calls Tryz.prog 35 #[.string s] w fun e w' => e = .returned (.bool (namedB s.data.toList)) ∧ w' = w := by
  have HN := Hid.mk (fun u => w_nameAt s 0 u (Nat.zero_le _) hs)
  rw [named_lst]
  generalize (⟨(nameW s.data.toList 0).toArray⟩ : ByteArray) = nm at *
  by_cases h0 : s.toList = []
  · have e1 : (s.toList == []) = true := by rw [h0]; rfl
    have e2 : s.toList.isEmpty = true := by rw [h0]; rfl
    rw [e1]
    clear HN
    go_enter Tryz.func35, Tryz.ntmps35
    go_wp2_with fail
    go_ret
    exact ⟨rfl, rfl⟩
  · have e1 : (s.toList == []) = false := beq_eq_false_iff_ne.2 h0
    have e2 : s.toList.isEmpty = false := by simp [h0]
    rw [e1]
    go_enter Tryz.func35, Tryz.ntmps35
    go_wp2_with fail
    refine (HN.out _).mono ?_
    rintro e w1 ⟨rfl, hw1⟩
    obtain rfl := hw1.symm
    go_wp2_with fail
    go_ret
    exact ⟨by simp, rfl⟩

set_option maxRecDepth 100000 in
set_option maxHeartbeats 1600000 in
theorem w_Plain (s : ByteArray) (w : World) (hs : s.size ≤ 140737488355328) :
    Calls Tryz.prog 132 #[.string s] w fun e w' => e = .returned (.bool (plainW s.data.toList)) ∧ w' = w := by
  have HN := Hid.mk (fun u => w_Named s u hs)
  have HO := Hid.mk (fun u => w_wOwn s u)
  unfold plainW
  cases h1 : namedB s.data.toList with
  | false =>
    rw [h1] at HN
    clear h1
    go_enter Tryz.func132, Tryz.ntmps132
    go_wp2_with fail
    refine (HN.out _).mono ?_
    rintro e w1 ⟨rfl, hw1⟩
    obtain rfl := hw1.symm
    go_wp2_with fail
    go_ret
    exact ⟨rfl, rfl⟩
  | true =>
    rw [h1] at HN
    clear h1
    generalize ownB s.data.toList = b2 at *
    go_enter Tryz.func132, Tryz.ntmps132
    go_wp2_with fail
    refine (HN.out _).mono ?_
    rintro e w1 ⟨rfl, hw1⟩
    obtain rfl := hw1.symm
    go_wp2_with fail
    refine (HO.out _).mono ?_
    rintro e w1 ⟨rfl, hw1⟩
    obtain rfl := hw1.symm
    go_wp2_with fail
    go_ret
    exact ⟨by cases b2 <;> rfl, rfl⟩
end Go.Proofs.YtdjleoglphgdgaaGreatDoor
namespace Go.Proofs.YtdjleoglphgdgaaGreatDoor
open Go.RowKit
set_option linter.unusedVariables false
set_option linter.unusedSimpArgs false

/-- the cutter's box -/
def CtB (w : World) (C : Nat) (s : ByteArray) (v : Value) : Prop := w.heap[C]? = some (.cells #[.string s, v] 79 (0, 0))
theorem CtB.low {w w' : World} {n C : Nat} {s : ByteArray} {v : Value} (h : CtB w C s v) (hb : Below n w w') (hC : C < n) : CtB w' C s v := heap_lowT hb hC h
theorem CtB.lt {w : World} {C : Nat} {s : ByteArray} {v : Value} (h : CtB w C s v) : C < w.heap.size := (Array.getElem?_eq_some_iff.1 h).1
theorem CtB.c0 {w : World} {C : Nat} {s : ByteArray} {v : Value} (h : CtB w C s v) : w.cell? ⟨C, 0, none⟩ = some (.string s) := by rw [cell_of_row _ _ 0 _ _ _ h]; rfl
theorem CtB.c1 {w : World} {C : Nat} {s : ByteArray} {v : Value} (h : CtB w C s v) : w.cell? ⟨C, 1, none⟩ = some v := by rw [cell_of_row _ _ 1 _ _ _ h]; rfl
end Go.Proofs.YtdjleoglphgdgaaGreatDoor
