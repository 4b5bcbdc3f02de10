import Derived.Test.YtdjleoglphgdgaaGreatDoorM24
import Derived.Test.YtdjleoglphgdgaaGreatDoorM25
namespace Go.Proofs.YtdjleoglphgdgaaGreatDoor
open Go.RowKit
set_option linter.unusedVariables false
set_option linter.unusedSimpArgs false

set_option maxRecDepth 100000 in
set_option maxHeartbeats 6400000 in
theorem w_rReserved (n : ByteArray) (w : World) :
    Calls Tryz.prog 38 #[.string n] w fun e w' => e = .returned (.bool (ownB n.data.toList)) ∧ w' = w := by
  by_cases h0 : n.data.toList = [100, 101, 102]
  · have HT : ownB n.data.toList = true := by rw [h0]; decide
    rw [HT]
    have g0 : (n.toList == [100, 101, 102]) = true := by rw [Lib.toList_data, h0]; rfl
    clear HT h0
    go_enter Tryz.func38, Tryz.ntmps38
    go_wp2_with fail
    go_ret
    exact ⟨rfl, rfl⟩
  have g0 : (n.toList == [100, 101, 102]) = false := by rw [Lib.toList_data, beq_eq_false_iff_ne]; exact h0
  have b0 := beq_eq_false_iff_ne.2 h0
  clear h0
  by_cases h1 : n.data.toList = [105, 102]
  · have HT : ownB n.data.toList = true := by rw [h1]; decide
    rw [HT]
    have g1 : (n.toList == [105, 102]) = true := by rw [Lib.toList_data, h1]; rfl
    clear HT h1
    go_enter Tryz.func38, Tryz.ntmps38
    go_wp2_with fail
    go_ret
    exact ⟨rfl, rfl⟩
  have g1 : (n.toList == [105, 102]) = false := by rw [Lib.toList_data, beq_eq_false_iff_ne]; exact h1
  have b1 := beq_eq_false_iff_ne.2 h1
  clear h1
  by_cases h2 : n.data.toList = [116, 104, 101, 110]
  · have HT : ownB n.data.toList = true := by rw [h2]; decide
    rw [HT]
    have g2 : (n.toList == [116, 104, 101, 110]) = true := by rw [Lib.toList_data, h2]; rfl
    clear HT h2
    go_enter Tryz.func38, Tryz.ntmps38
    go_wp2_with fail
    go_ret
    exact ⟨rfl, rfl⟩
  have g2 : (n.toList == [116, 104, 101, 110]) = false := by rw [Lib.toList_data, beq_eq_false_iff_ne]; exact h2
  have b2 := beq_eq_false_iff_ne.2 h2
  clear h2
  by_cases h3 : n.data.toList = [101, 108, 105, 102]
  · have HT : ownB n.data.toList = true := by rw [h3]; decide
    rw [HT]
    have g3 : (n.toList == [101, 108, 105, 102]) = true := by rw [Lib.toList_data, h3]; rfl
    clear HT h3
    go_enter Tryz.func38, Tryz.ntmps38
    go_wp2_with fail
    go_ret
    exact ⟨rfl, rfl⟩
  have g3 : (n.toList == [101, 108, 105, 102]) = false := by rw [Lib.toList_data, beq_eq_false_iff_ne]; exact h3
  have b3 := beq_eq_false_iff_ne.2 h3
  clear h3
  by_cases h4 : n.data.toList = [101, 108, 115, 101]
  · have HT : ownB n.data.toList = true := by rw [h4]; decide
    rw [HT]
    have g4 : (n.toList == [101, 108, 115, 101]) = true := by rw [Lib.toList_data, h4]; rfl
    clear HT h4
    go_enter Tryz.func38, Tryz.ntmps38
    go_wp2_with fail
    go_ret
    exact ⟨rfl, rfl⟩
  have g4 : (n.toList == [101, 108, 115, 101]) = false := by rw [Lib.toList_data, beq_eq_false_iff_ne]; exact h4
  have b4 := beq_eq_false_iff_ne.2 h4
  clear h4
  by_cases h5 : n.data.toList = [101, 110, 100]
  · have HT : ownB n.data.toList = true := by rw [h5]; decide
    rw [HT]
    have g5 : (n.toList == [101, 110, 100]) = true := by rw [Lib.toList_data, h5]; rfl
    clear HT h5
    go_enter Tryz.func38, Tryz.ntmps38
    go_wp2_with fail
    go_ret
    exact ⟨rfl, rfl⟩
  have g5 : (n.toList == [101, 110, 100]) = false := by rw [Lib.toList_data, beq_eq_false_iff_ne]; exact h5
  have b5 := beq_eq_false_iff_ne.2 h5
  clear h5
  by_cases h6 : n.data.toList = [97, 115]
  · have HT : ownB n.data.toList = true := by rw [h6]; decide
    rw [HT]
    have g6 : (n.toList == [97, 115]) = true := by rw [Lib.toList_data, h6]; rfl
    clear HT h6
    go_enter Tryz.func38, Tryz.ntmps38
    go_wp2_with fail
    go_ret
    exact ⟨rfl, rfl⟩
  have g6 : (n.toList == [97, 115]) = false := by rw [Lib.toList_data, beq_eq_false_iff_ne]; exact h6
  have b6 := beq_eq_false_iff_ne.2 h6
  clear h6
  by_cases h7 : n.data.toList = [114, 101, 100, 117, 99, 101]
  · have HT : ownB n.data.toList = true := by rw [h7]; decide
    rw [HT]
    have g7 : (n.toList == [114, 101, 100, 117, 99, 101]) = true := by rw [Lib.toList_data, h7]; rfl
    clear HT h7
    go_enter Tryz.func38, Tryz.ntmps38
    go_wp2_with fail
    go_ret
    exact ⟨rfl, rfl⟩
  have g7 : (n.toList == [114, 101, 100, 117, 99, 101]) = false := by rw [Lib.toList_data, beq_eq_false_iff_ne]; exact h7
  have b7 := beq_eq_false_iff_ne.2 h7
  clear h7
  by_cases h8 : n.data.toList = [102, 111, 114, 101, 97, 99, 104]
  · have HT : ownB n.data.toList = true := by rw [h8]; decide
    rw [HT]
    have g8 : (n.toList == [102, 111, 114, 101, 97, 99, 104]) = true := by rw [Lib.toList_data, h8]; rfl
    clear HT h8
    go_enter Tryz.func38, Tryz.ntmps38
    go_wp2_with fail
    go_ret
    exact ⟨rfl, rfl⟩
  have g8 : (n.toList == [102, 111, 114, 101, 97, 99, 104]) = false := by rw [Lib.toList_data, beq_eq_false_iff_ne]; exact h8
  have b8 := beq_eq_false_iff_ne.2 h8
  clear h8
  by_cases h9 : n.data.toList = [116, 114, 121]
  · have HT : ownB n.data.toList = true := by rw [h9]; decide
    rw [HT]
    have g9 : (n.toList == [116, 114, 121]) = true := by rw [Lib.toList_data, h9]; rfl
    clear HT h9
    go_enter Tryz.func38, Tryz.ntmps38
    go_wp2_with fail
    go_ret
    exact ⟨rfl, rfl⟩
  have g9 : (n.toList == [116, 114, 121]) = false := by rw [Lib.toList_data, beq_eq_false_iff_ne]; exact h9
  have b9 := beq_eq_false_iff_ne.2 h9
  clear h9
  by_cases h10 : n.data.toList = [99, 97, 116, 99, 104]
  · have HT : ownB n.data.toList = true := by rw [h10]; decide
    rw [HT]
    have g10 : (n.toList == [99, 97, 116, 99, 104]) = true := by rw [Lib.toList_data, h10]; rfl
    clear HT h10
    go_enter Tryz.func38, Tryz.ntmps38
    go_wp2_with fail
    go_ret
    exact ⟨rfl, rfl⟩
  have g10 : (n.toList == [99, 97, 116, 99, 104]) = false := by rw [Lib.toList_data, beq_eq_false_iff_ne]; exact h10
  have b10 := beq_eq_false_iff_ne.2 h10
  clear h10
  by_cases h11 : n.data.toList = [97, 110, 100]
  · have HT : ownB n.data.toList = true := by rw [h11]; decide
    rw [HT]
    have g11 : (n.toList == [97, 110, 100]) = true := by rw [Lib.toList_data, h11]; rfl
    clear HT h11
    go_enter Tryz.func38, Tryz.ntmps38
    go_wp2_with fail
    go_ret
    exact ⟨rfl, rfl⟩
  have g11 : (n.toList == [97, 110, 100]) = false := by rw [Lib.toList_data, beq_eq_false_iff_ne]; exact h11
  have b11 := beq_eq_false_iff_ne.2 h11
  clear h11
  by_cases h12 : n.data.toList = [111, 114]
  · have HT : ownB n.data.toList = true := by rw [h12]; decide
    rw [HT]
    have g12 : (n.toList == [111, 114]) = true := by rw [Lib.toList_data, h12]; rfl
    clear HT h12
    go_enter Tryz.func38, Tryz.ntmps38
    go_wp2_with fail
    go_ret
    exact ⟨rfl, rfl⟩
  have g12 : (n.toList == [111, 114]) = false := by rw [Lib.toList_data, beq_eq_false_iff_ne]; exact h12
  have b12 := beq_eq_false_iff_ne.2 h12
  clear h12
  by_cases h13 : n.data.toList = [108, 97, 98, 101, 108]
  · have HT : ownB n.data.toList = true := by rw [h13]; decide
    rw [HT]
    have g13 : (n.toList == [108, 97, 98, 101, 108]) = true := by rw [Lib.toList_data, h13]; rfl
    clear HT h13
    go_enter Tryz.func38, Tryz.ntmps38
    go_wp2_with fail
    go_ret
    exact ⟨rfl, rfl⟩
  have g13 : (n.toList == [108, 97, 98, 101, 108]) = false := by rw [Lib.toList_data, beq_eq_false_iff_ne]; exact h13
  have b13 := beq_eq_false_iff_ne.2 h13
  clear h13
  by_cases h14 : n.data.toList = [98, 114, 101, 97, 107]
  · have HT : ownB n.data.toList = true := by rw [h14]; decide
    rw [HT]
    have g14 : (n.toList == [98, 114, 101, 97, 107]) = true := by rw [Lib.toList_data, h14]; rfl
    clear HT h14
    go_enter Tryz.func38, Tryz.ntmps38
    go_wp2_with fail
    go_ret
    exact ⟨rfl, rfl⟩
  have g14 : (n.toList == [98, 114, 101, 97, 107]) = false := by rw [Lib.toList_data, beq_eq_false_iff_ne]; exact h14
  have b14 := beq_eq_false_iff_ne.2 h14
  clear h14
  by_cases h15 : n.data.toList = [110, 117, 108, 108]
  · have HT : ownB n.data.toList = true := by rw [h15]; decide
    rw [HT]
    have g15 : (n.toList == [110, 117, 108, 108]) = true := by rw [Lib.toList_data, h15]; rfl
    clear HT h15
    go_enter Tryz.func38, Tryz.ntmps38
    go_wp2_with fail
    go_ret
    exact ⟨rfl, rfl⟩
  have g15 : (n.toList == [110, 117, 108, 108]) = false := by rw [Lib.toList_data, beq_eq_false_iff_ne]; exact h15
  have b15 := beq_eq_false_iff_ne.2 h15
  clear h15
  by_cases h16 : n.data.toList = [116, 114, 117, 101]
  · have HT : ownB n.data.toList = true := by rw [h16]; decide
    rw [HT]
    have g16 : (n.toList == [116, 114, 117, 101]) = true := by rw [Lib.toList_data, h16]; rfl
    clear HT h16
    go_enter Tryz.func38, Tryz.ntmps38
    go_wp2_with fail
    go_ret
    exact ⟨rfl, rfl⟩
  have g16 : (n.toList == [116, 114, 117, 101]) = false := by rw [Lib.toList_data, beq_eq_false_iff_ne]; exact h16
  have b16 := beq_eq_false_iff_ne.2 h16
  clear h16
  by_cases h17 : n.data.toList = [102, 97, 108, 115, 101]
  · have HT : ownB n.data.toList = true := by rw [h17]; decide
    rw [HT]
    have g17 : (n.toList == [102, 97, 108, 115, 101]) = true := by rw [Lib.toList_data, h17]; rfl
    clear HT h17
    go_enter Tryz.func38, Tryz.ntmps38
    go_wp2_with fail
    go_ret
    exact ⟨rfl, rfl⟩
  have g17 : (n.toList == [102, 97, 108, 115, 101]) = false := by rw [Lib.toList_data, beq_eq_false_iff_ne]; exact h17
  have b17 := beq_eq_false_iff_ne.2 h17
  clear h17
  have HT : ownB n.data.toList = false := by
    unfold ownB
    simp only [ownL, List.cons_append, List.nil_append, List.contains_cons, List.contains_nil, b0, b1, b2, b3, b4, b5, b6, b7, b8, b9, b10, b11, b12, b13, b14, b15, b16, b17, Bool.or_false]
  rw [HT]
  clear HT b0 b1 b2 b3 b4 b5 b6 b7 b8 b9 b10 b11 b12 b13 b14 b15 b16 b17
  go_enter Tryz.func38, Tryz.ntmps38
  go_wp2_with fail
  go_ret
  exact ⟨rfl, rfl⟩

end Go.Proofs.YtdjleoglphgdgaaGreatDoor
namespace Go.Proofs.YtdjleoglphgdgaaGreatDoor
open Go.RowKit
set_option linter.unusedVariables false
set_option linter.unusedSimpArgs false

set_option maxRecDepth 100000 in
set_option maxHeartbeats 1600000 in
theorem w_rDigit (c : UInt8) (w : World) :
    Calls Tryz.prog 67 #[.int .u8 ((c.toNat : Nat) : Int)] w fun e w' => e = .returned (.bool (dgB c)) ∧ w' = w := by
  have ht : ∀ b, dgB c = b → dgB c = b := fun _ h => h
  unfold dgB at ht
  have hlt := c.toNat_lt
  obtain ⟨x, hx⟩ : ∃ x : Int, ((c.toNat : Nat) : Int) = x := ⟨_, rfl⟩
  rw [hx]
  have hcs : (48 ≤ x ∧ x ≤ 57) ∨ (48 ≤ x ∧ ¬ x ≤ 57) ∨ (¬ 48 ≤ x ∧ x ≤ 57) := by omega
  rcases hcs with ⟨q0, q1⟩ | ⟨q0, q1⟩ | ⟨q0, q1⟩
  · have HT : dgB c = true := by unfold dgB; exact decide_eq_true (by omega)
    rw [HT]
    clear HT ht hx hlt
    go_enter Tryz.func67, Tryz.ntmps67
    go_wp2_with fail
    go_ret
    exact ⟨by first | rfl | simp [*], rfl⟩
  · have HT : dgB c = false := by unfold dgB; exact decide_eq_false (by omega)
    rw [HT]
    clear HT ht hx hlt
    go_enter Tryz.func67, Tryz.ntmps67
    go_wp2_with fail
    go_ret
    exact ⟨by first | rfl | simp [*], rfl⟩
  · have HT : dgB c = false := by unfold dgB; exact decide_eq_false (by omega)
    rw [HT]
    clear HT ht hx hlt
    go_enter Tryz.func67, Tryz.ntmps67
    go_wp2_with fail
    go_ret
    exact ⟨by first | rfl | simp [*], rfl⟩

set_option maxRecDepth 100000 in
set_option maxHeartbeats 1600000 in
theorem w_rLetter (c : UInt8) (w : World) :
    Calls Tryz.prog 66 #[.int .u8 ((c.toNat : Nat) : Int)] w fun e w' => e = .returned (.bool (leB c)) ∧ w' = w := by
  have ht : ∀ b, leB c = b → leB c = b := fun _ h => h
  unfold leB at ht
  have hlt := c.toNat_lt
  obtain ⟨x, hx⟩ : ∃ x : Int, ((c.toNat : Nat) : Int) = x := ⟨_, rfl⟩
  rw [hx]
  have hcs : (97 ≤ x ∧ x ≤ 122) ∨ (97 ≤ x ∧ ¬ x ≤ 122 ∧ 65 ≤ x ∧ ¬ x ≤ 90 ∧ ¬ x = 95) ∨ (¬ 97 ≤ x ∧ 65 ≤ x ∧ x ≤ 90) ∨ (¬ 97 ≤ x ∧ 65 ≤ x ∧ ¬ x ≤ 90 ∧ x = 95) ∨ (¬ 97 ≤ x ∧ 65 ≤ x ∧ ¬ x ≤ 90 ∧ ¬ x = 95) ∨ (¬ 97 ≤ x ∧ ¬ 65 ≤ x ∧ ¬ x = 95) := by omega
  rcases hcs with ⟨q0, q1⟩ | ⟨q0, q1, q2, q3, q4⟩ | ⟨q0, q1, q2⟩ | ⟨q0, q1, q2, q3⟩ | ⟨q0, q1, q2, q3⟩ | ⟨q0, q1, q2⟩
  · have HT : leB c = true := by unfold leB; exact decide_eq_true (by omega)
    rw [HT]
    clear HT ht hx hlt
    go_enter Tryz.func66, Tryz.ntmps66
    go_wp2_with fail
    go_ret
    exact ⟨by first | rfl | simp [*], rfl⟩
  · have HT : leB c = false := by unfold leB; exact decide_eq_false (by omega)
    rw [HT]
    clear HT ht hx hlt
    go_enter Tryz.func66, Tryz.ntmps66
    go_wp2_with fail
    go_ret
    exact ⟨by first | rfl | simp [*], rfl⟩
  · have HT : leB c = true := by unfold leB; exact decide_eq_true (by omega)
    rw [HT]
    clear HT ht hx hlt
    go_enter Tryz.func66, Tryz.ntmps66
    go_wp2_with fail
    go_ret
    exact ⟨by first | rfl | simp [*], rfl⟩
  · have HT : leB c = true := by unfold leB; exact decide_eq_true (by omega)
    rw [HT]
    subst q3
    clear HT ht hx hlt q0 q1 q2
    go_enter Tryz.func66, Tryz.ntmps66
    go_wp2_with fail
    go_ret
    exact ⟨by first | rfl | simp [*], rfl⟩
  · have HT : leB c = false := by unfold leB; exact decide_eq_false (by omega)
    rw [HT]
    clear HT ht hx hlt
    go_enter Tryz.func66, Tryz.ntmps66
    go_wp2_with fail
    go_ret
    exact ⟨by first | rfl | simp [*], rfl⟩
  · have HT : leB c = false := by unfold leB; exact decide_eq_false (by omega)
    rw [HT]
    clear HT ht hx hlt
    go_enter Tryz.func66, Tryz.ntmps66
    go_wp2_with fail
    go_ret
    exact ⟨by first | rfl | simp [*], rfl⟩

theorem cut_all {l : List UInt8} {k : Nat} (hk : k ≤ l.length) : (cut l 0 k = l) ↔ k = l.length := by
  unfold cut
  rw [List.drop_zero, Nat.sub_zero]
  constructor
  · intro h
    have := congrArg List.length h
    rw [List.length_take] at this
    omega
  · intro h; rw [h]; exact List.take_length
theorem namedB_of {l : List UInt8} (h0 : l ≠ []) (h1 : leB (l.getD 0 0) = true) : namedB l = decide (bhP inB l 0 = l.length) := by
  have hp : 0 < l.length := List.length_pos_iff.2 h0
  unfold namedB nameW
  rw [if_pos ⟨hp, h1⟩]
  have := cut_all (l := l) (k := bhP inB l 0) (bhP_ge inB (by omega)).2
  by_cases h : bhP inB l 0 = l.length
  · rw [decide_eq_true h, decide_eq_true ⟨h0, this.2 h⟩]
  · rw [decide_eq_false h, decide_eq_false (fun g => h (this.1 g.2))]
theorem namedB_not {l : List UInt8} (h1 : ¬ leB (l.getD 0 0) = true) : namedB l = false := by
  unfold namedB nameW
  rw [if_neg (fun g => h1 g.2)]
  exact decide_eq_false (fun g => g.1 g.2.symm)

set_option maxRecDepth 100000 in
set_option maxHeartbeats 1600000 in
theorem w_rNamed (s : ByteArray) (w : World) (hs : s.size ≤ 140737488355328) :
    Calls Tryz.prog 37 #[.string s] w fun e w' => e = .returned (.bool (namedB s.data.toList)) ∧ w' = w := by
  by_cases h0 : s.size = 0
  · have HF : Hid (namedB s.data.toList = false) := by
      have : s.data.toList = [] := List.length_eq_zero_iff.1 (by rw [size_lst]; exact h0)
      show _ = _
      rw [this]; rfl
    have hq : ((s.size : Int) == 0) = true := by rw [h0]; rfl
    have hz : (s.size : Int) = 0 := by omega
    go_enter Tryz.func37, Tryz.ntmps37
    go_wp2_with fail
    go_ret
    exact ⟨by rw [HF.out]; first | done | rfl, rfl⟩
  · have hq : ((s.size : Int) == 0) = false := by rw [beq_eq_false_iff_ne]; omega
    have hz : ¬ (s.size : Int) = 0 := by omega
    have hi : (0 : Int) < (s.size : Int) := by omega
    have hp : 0 < s.size := by omega
    have hc := fun u => w_rLetter s[0] u
    have hd := getD_byte hp
    cases h1 : leB s[0] with
    | false =>
      have HF : Hid (namedB s.data.toList = false) := namedB_not (by rw [hd, h1]; decide)
      rw [h1] at hc
      have HC := Hid.mk hc
      clear hc hd h1
      go_enter Tryz.func37, Tryz.ntmps37
      go_wp2_with fail
      refine (HC.out _).mono ?_
      rintro e w1 ⟨rfl, hw1⟩
      obtain rfl := hw1.symm
      go_wp2_with fail
      go_ret
      exact ⟨by rw [HF.out]; first | done | rfl, rfl⟩
    | true =>
      have HF : Hid (namedB s.data.toList = decide (bhP inB s.data.toList 0 = s.data.toList.length)) := namedB_of (fun e => by have := congrArg List.length e; rw [size_lst, List.length_nil] at this; omega) (by rw [hd, h1])
      rw [h1] at hc
      have HC := Hid.mk hc
      have HLe := Hid.mk (fun c u => w_rLetter c u)
      have HDi := Hid.mk (fun c u => w_rDigit c u)
      clear hc hd h1
      obtain ⟨l, hl⟩ : ∃ l, l = s.data.toList := ⟨_, rfl⟩
      have HL : Hid (l.length = s.size) := by show _ = _; rw [hl]; exact size_lst s
      have HG : Hid (∀ q (h : q < s.size), l.getD q 0 = s[q]) := fun q h => by rw [hl]; exact getD_byte h
      rw [← hl] at HF ⊢
      clear hl
      go_enter Tryz.func37, Tryz.ntmps37
      go_wp2_with fail
      refine (HC.out _).mono ?_
      rintro e w1 ⟨rfl, hw1⟩
      obtain rfl := hw1.symm
      go_wp2_with fail
      go_loopw [3] (fun a wr => ∃ q : Nat, q ≤ s.size ∧ a = .int .i64 (q : Int) ∧ Hid (bhP inB l 0 = bhP inB l q) ∧ wr = w) (fun a _ => s.size - (intOf a).toNat)
      case atStart => exact ⟨0, Nat.zero_le _, rfl, rfl, rfl⟩
      case round =>
        obtain ⟨q, hqs, rfl, HQ, rfl⟩ := hrel
        by_cases hlt : q < s.size
        · have hi1 : (q : Int) < (s.size : Int) := by omega
          have hi0 : (0 : Int) ≤ (q : Int) := by omega
          have hst := bhP_step (P := inB) (l := l) (p := q) (by rw [HL.out]; exact hlt)
          have hsp := bhP_stop (P := inB) (l := l) (p := q) (by rw [HL.out]; exact hlt)
          rw [HG.out q hlt] at hst hsp
          unfold inB at hst hsp
          have hl1 := fun u => HLe.out s[q] u
          have hl2 := fun u => HDi.out s[q] u
          cases h1 : leB s[q] with
          | true =>
            rw [h1] at hl1 hst
            have HST := Hid.mk (hst rfl)
            have HL1 := Hid.mk hl1
            clear hst hsp hl1 hl2 h1 HC
            go_wp2_with fail
            refine (HL1.out _).mono ?_
            rintro e w1 ⟨rfl, hw1⟩
            obtain rfl := hw1.symm
            go_wp2_with fail
            go_roundw
            case rel => exact ⟨q + 1, by omega, by go_num, HQ.out.trans HST.out, by first | rfl | trivial⟩
            case measure => simp [intOf]; omega
          | false =>
            cases h2 : dgB s[q] with
            | true =>
              rw [h1] at hl1
              rw [h2] at hl2
              rw [h1, h2] at hst
              have HST := Hid.mk (hst rfl)
              have HL1 := Hid.mk hl1
              have HL2 := Hid.mk hl2
              clear hst hsp hl1 hl2 h1 h2 HC
              go_wp2_with fail
              refine (HL1.out _).mono ?_
              rintro e w1 ⟨rfl, hw1⟩
              obtain rfl := hw1.symm
              go_wp2_with fail
              refine (HL2.out _).mono ?_
              rintro e w1 ⟨rfl, hw1⟩
              obtain rfl := hw1.symm
              go_wp2_with fail
              go_roundw
              case rel => exact ⟨q + 1, by omega, by go_num, HQ.out.trans HST.out, by first | rfl | trivial⟩
              case measure => simp [intOf]; omega
            | false =>
              rw [h1] at hl1
              rw [h2] at hl2
              rw [h1, h2] at hsp
              have HE : Hid (namedB l = false) := by
                show _ = _
                rw [HF.out, HQ.out, show bhP inB l q = q from hsp rfl, HL.out]
                exact decide_eq_false (by omega)
              have HL1 := Hid.mk hl1
              have HL2 := Hid.mk hl2
              clear hst hsp hl1 hl2 h1 h2 HC HF
              go_wp2_with fail
              refine (HL1.out _).mono ?_
              rintro e w1 ⟨rfl, hw1⟩
              obtain rfl := hw1.symm
              go_wp2_with fail
              refine (HL2.out _).mono ?_
              rintro e w1 ⟨rfl, hw1⟩
              obtain rfl := hw1.symm
              go_wp2_with fail
              go_ret
              exact ⟨by rw [HE.out]; first | done | rfl, rfl⟩
        · have hi1 : ¬ (q : Int) < (s.size : Int) := by omega
          have HE : Hid (namedB l = true) := by
            show _ = _
            rw [HF.out, HQ.out, show q = l.length by rw [HL.out]; omega, bhP_end]
            exact decide_eq_true rfl
          clear HF HC
          go_wp2_with fail
          go_ret
          exact ⟨by rw [HE.out]; first | done | rfl, rfl⟩

set_option maxRecDepth 100000 in
set_option maxHeartbeats 1600000 in
theorem w_rPlain (s : ByteArray) (w : World) (hs : s.size ≤ 140737488355328) :
    Calls Tryz.prog 21 #[.string s] w fun e w' => e = .returned (.bool (plainW s.data.toList)) ∧ w' = w := by
  have HN := Hid.mk (fun u => w_rNamed s u hs)
  have HO := Hid.mk (fun u => w_rReserved s u)
  unfold plainW
  cases h1 : namedB s.data.toList with
  | false =>
    rw [h1] at HN
    clear h1
    go_enter Tryz.func21, Tryz.ntmps21
    go_wp2_with fail
    refine (HN.out _).mono ?_
    rintro e w1 ⟨rfl, hw1⟩
    obtain rfl := hw1.symm
    go_wp2_with fail
    go_ret
    exact ⟨rfl, rfl⟩
  | true =>
    rw [h1] at HN
    clear h1
    generalize ownB s.data.toList = b2 at *
    go_enter Tryz.func21, Tryz.ntmps21
    go_wp2_with fail
    refine (HN.out _).mono ?_
    rintro e w1 ⟨rfl, hw1⟩
    obtain rfl := hw1.symm
    go_wp2_with fail
    refine (HO.out _).mono ?_
    rintro e w1 ⟨rfl, hw1⟩
    obtain rfl := hw1.symm
    go_wp2_with fail
    go_ret
    exact ⟨by cases b2 <;> rfl, rfl⟩
end Go.Proofs.YtdjleoglphgdgaaGreatDoor
