import Derived.Test.YtohclfgghobldaaGreatDoorM28
import Derived.Test.YtohclfgghobldaaGreatDoorM26
import Derived.Test.YtohclfgghobldaaGreatDoorM18
import Derived.Test.YtohclfgghobldaaGreatDoorM27
namespace Go.Proofs.YtohclfgghobldaaGreatDoor
open Go.RowKit Go.Shelf
set_option linter.unusedVariables false
set_option linter.unusedSimpArgs false

set_option maxRecDepth 100000 in
set_option maxHeartbeats 1600000 in
theorem w_nameEnd (s : ByteArray) (p : Nat) (w : World) (hp : p ≤ s.size) (hs : s.size ≤ 140737488355328) :
    Calls Tryz.prog 40 #[.string s, .int .i64 (p : Int)] w fun e w' => e = .returned (.int .i64 ((bhP inB s.data.toList p : Nat) : Int)) ∧ w' = w := by
  obtain ⟨l, hl⟩ : ∃ l, l = s.data.toList := ⟨_, rfl⟩
  have HL : Hid (l.length = s.size) := by show _ = _; rw [hl]; exact size_lst s
  have HG : Hid (∀ q (h : q < s.size), l.getD q 0 = s[q]) := fun q h => by rw [hl]; exact getD_byte h
  rw [← hl]
  clear hl
  have HLe := Hid.mk (fun c u => w_rLetter c u)
  have HDi := Hid.mk (fun c u => w_rDigit c u)
  go_enter Tryz.func40, Tryz.ntmps40
  go_wp2_with fail
  go_loopw [1] (fun a wr => ∃ q : Nat, q ≤ s.size ∧ a = .int .i64 (q : Int) ∧ Hid (bhP inB l p = bhP inB l q) ∧ wr = w) (fun a _ => s.size - (intOf a).toNat)
  case atStart => exact ⟨p, hp, rfl, rfl, rfl⟩
  case round =>
    obtain ⟨q, hq, rfl, HQ, rfl⟩ := hrel
    by_cases hlt : q < s.size
    · have hi1 : (q : Int) < (s.size : Int) := by omega
      have hi0 : (0 : Int) ≤ (q : Int) := by omega
      have hst := bhP_step (P := inB) (l := l) (p := q) (by rw [HL.out]; exact hlt)
      have hsp := bhP_stop (P := inB) (l := l) (p := q) (by rw [HL.out]; exact hlt)
      rw [HG.out q hlt] at hst hsp
      have HST0 : Hid (inB s[q] = true → bhP inB l q = bhP inB l (q + 1)) := hst
      have HSP0 : Hid (inB s[q] = false → bhP inB l q = q) := hsp
      have HL1 := Hid.mk (fun u => HLe.out s[q] u)
      have HL2 := Hid.mk (fun u => HDi.out s[q] u)
      clear hst hsp
      cases h1 : leB s[q] with
      | true =>
        rw [h1] at HL1
        have HST := Hid.mk (HST0.out (by unfold inB; rw [h1]; rfl))
        clear h1
        go_wp2_with fail
        refine (HL1.out _).mono ?_
        rintro e w1 ⟨rfl, hw1⟩
        obtain rfl := hw1.symm
        go_wp2_with fail
        go_roundw
        case rel => exact ⟨q + 1, by omega, by go_num, HQ.out.trans HST.out, by first | rfl | trivial⟩
        case measure => simp [intOf]; omega
      | false =>
        rw [h1] at HL1
        cases h2 : dgB s[q] with
        | true =>
          rw [h2] at HL2
          have HST := Hid.mk (HST0.out (by unfold inB; rw [h1, h2]; rfl))
          clear h1 h2
          go_wp2_with fail
          refine (HL1.out _).mono ?_
          rintro e w1 ⟨rfl, hw1⟩
          obtain rfl := hw1.symm
          go_wp2_with fail
          refine (HL2.out _).mono ?_
          rintro e w1 ⟨rfl, hw1⟩
          obtain rfl := hw1.symm
          go_wp2_with fail
          go_roundw
          case rel => exact ⟨q + 1, by omega, by go_num, HQ.out.trans HST.out, by first | rfl | trivial⟩
          case measure => simp [intOf]; omega
        | false =>
          rw [h2] at HL2
          have HSP := Hid.mk (HQ.out.trans (HSP0.out (by unfold inB; rw [h1, h2]; rfl)))
          clear h1 h2
          go_wp2_with fail
          refine (HL1.out _).mono ?_
          rintro e w1 ⟨rfl, hw1⟩
          obtain rfl := hw1.symm
          go_wp2_with fail
          refine (HL2.out _).mono ?_
          rintro e w1 ⟨rfl, hw1⟩
          obtain rfl := hw1.symm
          go_wp2_with fail
          go_ret
          exact ⟨by rw [HSP.out]; first | done | rfl, rfl⟩
    · have hi1 : ¬ (q : Int) < (s.size : Int) := by omega
      have HSP : Hid (bhP inB l p = q) := by
        show _ = _
        rw [HQ.out, show q = l.length by rw [HL.out]; omega, bhP_end]
      go_wp2_with fail
      go_ret
      exact ⟨by rw [HSP.out]; first | done | rfl, rfl⟩

set_option maxRecDepth 100000 in
set_option maxHeartbeats 1600000 in
theorem w_numEnd (s : ByteArray) (p : Nat) (w : World) (hp : p ≤ s.size) (hs : s.size ≤ 140737488355328) :
    Calls Tryz.prog 43 #[.string s, .int .i64 (p : Int)] w fun e w' => e = .returned (.int .i64 ((bhP nuB s.data.toList p : Nat) : Int)) ∧ w' = w := by
  obtain ⟨l, hl⟩ : ∃ l, l = s.data.toList := ⟨_, rfl⟩
  have HL : Hid (l.length = s.size) := by show _ = _; rw [hl]; exact size_lst s
  have HG : Hid (∀ q (h : q < s.size), l.getD q 0 = s[q]) := fun q h => by rw [hl]; exact getD_byte h
  rw [← hl]
  clear hl
  have HLe := Hid.mk (fun c u => w_rLetter c u)
  have HDi := Hid.mk (fun c u => w_rDigit c u)
  go_enter Tryz.func43, Tryz.ntmps43
  go_wp2_with fail
  go_loopw [1] (fun a wr => ∃ q : Nat, q ≤ s.size ∧ a = .int .i64 (q : Int) ∧ Hid (bhP nuB l p = bhP nuB l q) ∧ wr = w) (fun a _ => s.size - (intOf a).toNat)
  case atStart => exact ⟨p, hp, rfl, rfl, rfl⟩
  case round =>
    obtain ⟨q, hq, rfl, HQ, rfl⟩ := hrel
    by_cases hlt : q < s.size
    · have hi1 : (q : Int) < (s.size : Int) := by omega
      have hi0 : (0 : Int) ≤ (q : Int) := by omega
      have hst := bhP_step (P := nuB) (l := l) (p := q) (by rw [HL.out]; exact hlt)
      have hsp := bhP_stop (P := nuB) (l := l) (p := q) (by rw [HL.out]; exact hlt)
      rw [HG.out q hlt] at hst hsp
      have HST0 : Hid (nuB s[q] = true → bhP nuB l q = bhP nuB l (q + 1)) := hst
      have HSP0 : Hid (nuB s[q] = false → bhP nuB l q = q) := hsp
      have HL1 := Hid.mk (fun u => HLe.out s[q] u)
      have HL2 := Hid.mk (fun u => HDi.out s[q] u)
      clear hst hsp
      cases h1 : leB s[q] with
      | true =>
        rw [h1] at HL1
        have HST := Hid.mk (HST0.out (by unfold nuB inB; rw [h1]; rfl))
        clear h1
        go_wp2_with fail
        refine (HL1.out _).mono ?_
        rintro e w1 ⟨rfl, hw1⟩
        obtain rfl := hw1.symm
        go_wp2_with fail
        go_roundw
        case rel => exact ⟨q + 1, by omega, by go_num, HQ.out.trans HST.out, by first | rfl | trivial⟩
        case measure => simp [intOf]; omega
      | false =>
        rw [h1] at HL1
        cases h2 : dgB s[q] with
        | true =>
          rw [h2] at HL2
          have HST := Hid.mk (HST0.out (by unfold nuB inB; rw [h1, h2]; rfl))
          clear h1 h2
          go_wp2_with fail
          refine (HL1.out _).mono ?_
          rintro e w1 ⟨rfl, hw1⟩
          obtain rfl := hw1.symm
          go_wp2_with fail
          refine (HL2.out _).mono ?_
          rintro e w1 ⟨rfl, hw1⟩
          obtain rfl := hw1.symm
          go_wp2_with fail
          go_roundw
          case rel => exact ⟨q + 1, by omega, by go_num, HQ.out.trans HST.out, by first | rfl | trivial⟩
          case measure => simp [intOf]; omega
        | false =>
          rw [h2] at HL2
          by_cases h46 : s[q].toNat = 46
          · have HST := Hid.mk (HST0.out (by unfold nuB inB; rw [h1, h2, decide_eq_true h46]; rfl))
            have h46i : ((s[q].toNat : Nat) : Int) = 46 := by omega
            rw [h46i] at HL1 HL2
            clear h1 h2 h46
            go_wp2_with fail
            refine (HL1.out _).mono ?_
            rintro e w1 ⟨rfl, hw1⟩
            obtain rfl := hw1.symm
            go_wp2_with fail
            refine (HL2.out _).mono ?_
            rintro e w1 ⟨rfl, hw1⟩
            obtain rfl := hw1.symm
            go_wp2_with fail
            go_roundw
            case rel => exact ⟨q + 1, by omega, by go_num, HQ.out.trans HST.out, by first | rfl | trivial⟩
            case measure => simp [intOf]; omega
          · have HSP := Hid.mk (HQ.out.trans (HSP0.out (by unfold nuB inB; rw [h1, h2, decide_eq_false h46]; rfl)))
            have h46i : ¬ ((s[q].toNat : Nat) : Int) = 46 := by omega
            clear h1 h2 h46
            go_wp2_with fail
            refine (HL1.out _).mono ?_
            rintro e w1 ⟨rfl, hw1⟩
            obtain rfl := hw1.symm
            go_wp2_with fail
            refine (HL2.out _).mono ?_
            rintro e w1 ⟨rfl, hw1⟩
            obtain rfl := hw1.symm
            go_wp2_with fail
            go_ret
            exact ⟨by rw [HSP.out]; first | done | rfl, rfl⟩
    · have hi1 : ¬ (q : Int) < (s.size : Int) := by omega
      have HSP : Hid (bhP nuB l p = q) := by
        show _ = _
        rw [HQ.out, show q = l.length by rw [HL.out]; omega, bhP_end]
      go_wp2_with fail
      go_ret
      exact ⟨by rw [HSP.out]; first | done | rfl, rfl⟩

end Go.Proofs.YtohclfgghobldaaGreatDoor
namespace Go.Proofs.YtohclfgghobldaaGreatDoor
open Go.RowKit
set_option linter.unusedVariables false
set_option linter.unusedSimpArgs false

set_option maxRecDepth 100000 in
set_option maxHeartbeats 6400000 in
theorem w_wMarked (n : ByteArray) (w : World) :
    Calls Tryz.prog 129 #[.string n] w fun e w' => e = .returned (.bool (mkB n.data.toList)) ∧ w' = w := by
  by_cases h0 : n.data.toList = [47, 47, 61]
  · have HT : mkB n.data.toList = true := by rw [h0]; decide
    rw [HT]
    have g0 : (n.toList == [47, 47, 61]) = true := by rw [Lib.toList_data, h0]; rfl
    clear HT h0
    go_enter Tryz.func129, Tryz.ntmps129
    go_wp2_with fail
    go_ret
    exact ⟨rfl, rfl⟩
  have g0 : (n.toList == [47, 47, 61]) = false := by rw [Lib.toList_data, beq_eq_false_iff_ne]; exact h0
  have b0 := beq_eq_false_iff_ne.2 h0
  clear h0
  by_cases h1 : n.data.toList = [46, 46]
  · have HT : mkB n.data.toList = true := by rw [h1]; decide
    rw [HT]
    have g1 : (n.toList == [46, 46]) = true := by rw [Lib.toList_data, h1]; rfl
    clear HT h1
    go_enter Tryz.func129, Tryz.ntmps129
    go_wp2_with fail
    go_ret
    exact ⟨rfl, rfl⟩
  have g1 : (n.toList == [46, 46]) = false := by rw [Lib.toList_data, beq_eq_false_iff_ne]; exact h1
  have b1 := beq_eq_false_iff_ne.2 h1
  clear h1
  by_cases h2 : n.data.toList = [124, 61]
  · have HT : mkB n.data.toList = true := by rw [h2]; decide
    rw [HT]
    have g2 : (n.toList == [124, 61]) = true := by rw [Lib.toList_data, h2]; rfl
    clear HT h2
    go_enter Tryz.func129, Tryz.ntmps129
    go_wp2_with fail
    go_ret
    exact ⟨rfl, rfl⟩
  have g2 : (n.toList == [124, 61]) = false := by rw [Lib.toList_data, beq_eq_false_iff_ne]; exact h2
  have b2 := beq_eq_false_iff_ne.2 h2
  clear h2
  by_cases h3 : n.data.toList = [43, 61]
  · have HT : mkB n.data.toList = true := by rw [h3]; decide
    rw [HT]
    have g3 : (n.toList == [43, 61]) = true := by rw [Lib.toList_data, h3]; rfl
    clear HT h3
    go_enter Tryz.func129, Tryz.ntmps129
    go_wp2_with fail
    go_ret
    exact ⟨rfl, rfl⟩
  have g3 : (n.toList == [43, 61]) = false := by rw [Lib.toList_data, beq_eq_false_iff_ne]; exact h3
  have b3 := beq_eq_false_iff_ne.2 h3
  clear h3
  by_cases h4 : n.data.toList = [45, 61]
  · have HT : mkB n.data.toList = true := by rw [h4]; decide
    rw [HT]
    have g4 : (n.toList == [45, 61]) = true := by rw [Lib.toList_data, h4]; rfl
    clear HT h4
    go_enter Tryz.func129, Tryz.ntmps129
    go_wp2_with fail
    go_ret
    exact ⟨rfl, rfl⟩
  have g4 : (n.toList == [45, 61]) = false := by rw [Lib.toList_data, beq_eq_false_iff_ne]; exact h4
  have b4 := beq_eq_false_iff_ne.2 h4
  clear h4
  by_cases h5 : n.data.toList = [42, 61]
  · have HT : mkB n.data.toList = true := by rw [h5]; decide
    rw [HT]
    have g5 : (n.toList == [42, 61]) = true := by rw [Lib.toList_data, h5]; rfl
    clear HT h5
    go_enter Tryz.func129, Tryz.ntmps129
    go_wp2_with fail
    go_ret
    exact ⟨rfl, rfl⟩
  have g5 : (n.toList == [42, 61]) = false := by rw [Lib.toList_data, beq_eq_false_iff_ne]; exact h5
  have b5 := beq_eq_false_iff_ne.2 h5
  clear h5
  by_cases h6 : n.data.toList = [47, 61]
  · have HT : mkB n.data.toList = true := by rw [h6]; decide
    rw [HT]
    have g6 : (n.toList == [47, 61]) = true := by rw [Lib.toList_data, h6]; rfl
    clear HT h6
    go_enter Tryz.func129, Tryz.ntmps129
    go_wp2_with fail
    go_ret
    exact ⟨rfl, rfl⟩
  have g6 : (n.toList == [47, 61]) = false := by rw [Lib.toList_data, beq_eq_false_iff_ne]; exact h6
  have b6 := beq_eq_false_iff_ne.2 h6
  clear h6
  by_cases h7 : n.data.toList = [37, 61]
  · have HT : mkB n.data.toList = true := by rw [h7]; decide
    rw [HT]
    have g7 : (n.toList == [37, 61]) = true := by rw [Lib.toList_data, h7]; rfl
    clear HT h7
    go_enter Tryz.func129, Tryz.ntmps129
    go_wp2_with fail
    go_ret
    exact ⟨rfl, rfl⟩
  have g7 : (n.toList == [37, 61]) = false := by rw [Lib.toList_data, beq_eq_false_iff_ne]; exact h7
  have b7 := beq_eq_false_iff_ne.2 h7
  clear h7
  by_cases h8 : n.data.toList = [61, 61]
  · have HT : mkB n.data.toList = true := by rw [h8]; decide
    rw [HT]
    have g8 : (n.toList == [61, 61]) = true := by rw [Lib.toList_data, h8]; rfl
    clear HT h8
    go_enter Tryz.func129, Tryz.ntmps129
    go_wp2_with fail
    go_ret
    exact ⟨rfl, rfl⟩
  have g8 : (n.toList == [61, 61]) = false := by rw [Lib.toList_data, beq_eq_false_iff_ne]; exact h8
  have b8 := beq_eq_false_iff_ne.2 h8
  clear h8
  by_cases h9 : n.data.toList = [33, 61]
  · have HT : mkB n.data.toList = true := by rw [h9]; decide
    rw [HT]
    have g9 : (n.toList == [33, 61]) = true := by rw [Lib.toList_data, h9]; rfl
    clear HT h9
    go_enter Tryz.func129, Tryz.ntmps129
    go_wp2_with fail
    go_ret
    exact ⟨rfl, rfl⟩
  have g9 : (n.toList == [33, 61]) = false := by rw [Lib.toList_data, beq_eq_false_iff_ne]; exact h9
  have b9 := beq_eq_false_iff_ne.2 h9
  clear h9
  by_cases h10 : n.data.toList = [60, 61]
  · have HT : mkB n.data.toList = true := by rw [h10]; decide
    rw [HT]
    have g10 : (n.toList == [60, 61]) = true := by rw [Lib.toList_data, h10]; rfl
    clear HT h10
    go_enter Tryz.func129, Tryz.ntmps129
    go_wp2_with fail
    go_ret
    exact ⟨rfl, rfl⟩
  have g10 : (n.toList == [60, 61]) = false := by rw [Lib.toList_data, beq_eq_false_iff_ne]; exact h10
  have b10 := beq_eq_false_iff_ne.2 h10
  clear h10
  by_cases h11 : n.data.toList = [62, 61]
  · have HT : mkB n.data.toList = true := by rw [h11]; decide
    rw [HT]
    have g11 : (n.toList == [62, 61]) = true := by rw [Lib.toList_data, h11]; rfl
    clear HT h11
    go_enter Tryz.func129, Tryz.ntmps129
    go_wp2_with fail
    go_ret
    exact ⟨rfl, rfl⟩
  have g11 : (n.toList == [62, 61]) = false := by rw [Lib.toList_data, beq_eq_false_iff_ne]; exact h11
  have b11 := beq_eq_false_iff_ne.2 h11
  clear h11
  by_cases h12 : n.data.toList = [47, 47]
  · have HT : mkB n.data.toList = true := by rw [h12]; decide
    rw [HT]
    have g12 : (n.toList == [47, 47]) = true := by rw [Lib.toList_data, h12]; rfl
    clear HT h12
    go_enter Tryz.func129, Tryz.ntmps129
    go_wp2_with fail
    go_ret
    exact ⟨rfl, rfl⟩
  have g12 : (n.toList == [47, 47]) = false := by rw [Lib.toList_data, beq_eq_false_iff_ne]; exact h12
  have b12 := beq_eq_false_iff_ne.2 h12
  clear h12
  by_cases h13 : n.data.toList = [124]
  · have HT : mkB n.data.toList = true := by rw [h13]; decide
    rw [HT]
    have g13 : (n.toList == [124]) = true := by rw [Lib.toList_data, h13]; rfl
    clear HT h13
    go_enter Tryz.func129, Tryz.ntmps129
    go_wp2_with fail
    go_ret
    exact ⟨rfl, rfl⟩
  have g13 : (n.toList == [124]) = false := by rw [Lib.toList_data, beq_eq_false_iff_ne]; exact h13
  have b13 := beq_eq_false_iff_ne.2 h13
  clear h13
  by_cases h14 : n.data.toList = [44]
  · have HT : mkB n.data.toList = true := by rw [h14]; decide
    rw [HT]
    have g14 : (n.toList == [44]) = true := by rw [Lib.toList_data, h14]; rfl
    clear HT h14
    go_enter Tryz.func129, Tryz.ntmps129
    go_wp2_with fail
    go_ret
    exact ⟨rfl, rfl⟩
  have g14 : (n.toList == [44]) = false := by rw [Lib.toList_data, beq_eq_false_iff_ne]; exact h14
  have b14 := beq_eq_false_iff_ne.2 h14
  clear h14
  by_cases h15 : n.data.toList = [61]
  · have HT : mkB n.data.toList = true := by rw [h15]; decide
    rw [HT]
    have g15 : (n.toList == [61]) = true := by rw [Lib.toList_data, h15]; rfl
    clear HT h15
    go_enter Tryz.func129, Tryz.ntmps129
    go_wp2_with fail
    go_ret
    exact ⟨rfl, rfl⟩
  have g15 : (n.toList == [61]) = false := by rw [Lib.toList_data, beq_eq_false_iff_ne]; exact h15
  have b15 := beq_eq_false_iff_ne.2 h15
  clear h15
  by_cases h16 : n.data.toList = [60]
  · have HT : mkB n.data.toList = true := by rw [h16]; decide
    rw [HT]
    have g16 : (n.toList == [60]) = true := by rw [Lib.toList_data, h16]; rfl
    clear HT h16
    go_enter Tryz.func129, Tryz.ntmps129
    go_wp2_with fail
    go_ret
    exact ⟨rfl, rfl⟩
  have g16 : (n.toList == [60]) = false := by rw [Lib.toList_data, beq_eq_false_iff_ne]; exact h16
  have b16 := beq_eq_false_iff_ne.2 h16
  clear h16
  by_cases h17 : n.data.toList = [62]
  · have HT : mkB n.data.toList = true := by rw [h17]; decide
    rw [HT]
    have g17 : (n.toList == [62]) = true := by rw [Lib.toList_data, h17]; rfl
    clear HT h17
    go_enter Tryz.func129, Tryz.ntmps129
    go_wp2_with fail
    go_ret
    exact ⟨rfl, rfl⟩
  have g17 : (n.toList == [62]) = false := by rw [Lib.toList_data, beq_eq_false_iff_ne]; exact h17
  have b17 := beq_eq_false_iff_ne.2 h17
  clear h17
  by_cases h18 : n.data.toList = [43]
  · have HT : mkB n.data.toList = true := by rw [h18]; decide
    rw [HT]
    have g18 : (n.toList == [43]) = true := by rw [Lib.toList_data, h18]; rfl
    clear HT h18
    go_enter Tryz.func129, Tryz.ntmps129
    go_wp2_with fail
    go_ret
    exact ⟨rfl, rfl⟩
  have g18 : (n.toList == [43]) = false := by rw [Lib.toList_data, beq_eq_false_iff_ne]; exact h18
  have b18 := beq_eq_false_iff_ne.2 h18
  clear h18
  by_cases h19 : n.data.toList = [45]
  · have HT : mkB n.data.toList = true := by rw [h19]; decide
    rw [HT]
    have g19 : (n.toList == [45]) = true := by rw [Lib.toList_data, h19]; rfl
    clear HT h19
    go_enter Tryz.func129, Tryz.ntmps129
    go_wp2_with fail
    go_ret
    exact ⟨rfl, rfl⟩
  have g19 : (n.toList == [45]) = false := by rw [Lib.toList_data, beq_eq_false_iff_ne]; exact h19
  have b19 := beq_eq_false_iff_ne.2 h19
  clear h19
  by_cases h20 : n.data.toList = [42]
  · have HT : mkB n.data.toList = true := by rw [h20]; decide
    rw [HT]
    have g20 : (n.toList == [42]) = true := by rw [Lib.toList_data, h20]; rfl
    clear HT h20
    go_enter Tryz.func129, Tryz.ntmps129
    go_wp2_with fail
    go_ret
    exact ⟨rfl, rfl⟩
  have g20 : (n.toList == [42]) = false := by rw [Lib.toList_data, beq_eq_false_iff_ne]; exact h20
  have b20 := beq_eq_false_iff_ne.2 h20
  clear h20
  by_cases h21 : n.data.toList = [47]
  · have HT : mkB n.data.toList = true := by rw [h21]; decide
    rw [HT]
    have g21 : (n.toList == [47]) = true := by rw [Lib.toList_data, h21]; rfl
    clear HT h21
    go_enter Tryz.func129, Tryz.ntmps129
    go_wp2_with fail
    go_ret
    exact ⟨rfl, rfl⟩
  have g21 : (n.toList == [47]) = false := by rw [Lib.toList_data, beq_eq_false_iff_ne]; exact h21
  have b21 := beq_eq_false_iff_ne.2 h21
  clear h21
  by_cases h22 : n.data.toList = [37]
  · have HT : mkB n.data.toList = true := by rw [h22]; decide
    rw [HT]
    have g22 : (n.toList == [37]) = true := by rw [Lib.toList_data, h22]; rfl
    clear HT h22
    go_enter Tryz.func129, Tryz.ntmps129
    go_wp2_with fail
    go_ret
    exact ⟨rfl, rfl⟩
  have g22 : (n.toList == [37]) = false := by rw [Lib.toList_data, beq_eq_false_iff_ne]; exact h22
  have b22 := beq_eq_false_iff_ne.2 h22
  clear h22
  by_cases h23 : n.data.toList = [46]
  · have HT : mkB n.data.toList = true := by rw [h23]; decide
    rw [HT]
    have g23 : (n.toList == [46]) = true := by rw [Lib.toList_data, h23]; rfl
    clear HT h23
    go_enter Tryz.func129, Tryz.ntmps129
    go_wp2_with fail
    go_ret
    exact ⟨rfl, rfl⟩
  have g23 : (n.toList == [46]) = false := by rw [Lib.toList_data, beq_eq_false_iff_ne]; exact h23
  have b23 := beq_eq_false_iff_ne.2 h23
  clear h23
  by_cases h24 : n.data.toList = [40]
  · have HT : mkB n.data.toList = true := by rw [h24]; decide
    rw [HT]
    have g24 : (n.toList == [40]) = true := by rw [Lib.toList_data, h24]; rfl
    clear HT h24
    go_enter Tryz.func129, Tryz.ntmps129
    go_wp2_with fail
    go_ret
    exact ⟨rfl, rfl⟩
  have g24 : (n.toList == [40]) = false := by rw [Lib.toList_data, beq_eq_false_iff_ne]; exact h24
  have b24 := beq_eq_false_iff_ne.2 h24
  clear h24
  by_cases h25 : n.data.toList = [41]
  · have HT : mkB n.data.toList = true := by rw [h25]; decide
    rw [HT]
    have g25 : (n.toList == [41]) = true := by rw [Lib.toList_data, h25]; rfl
    clear HT h25
    go_enter Tryz.func129, Tryz.ntmps129
    go_wp2_with fail
    go_ret
    exact ⟨rfl, rfl⟩
  have g25 : (n.toList == [41]) = false := by rw [Lib.toList_data, beq_eq_false_iff_ne]; exact h25
  have b25 := beq_eq_false_iff_ne.2 h25
  clear h25
  by_cases h26 : n.data.toList = [91]
  · have HT : mkB n.data.toList = true := by rw [h26]; decide
    rw [HT]
    have g26 : (n.toList == [91]) = true := by rw [Lib.toList_data, h26]; rfl
    clear HT h26
    go_enter Tryz.func129, Tryz.ntmps129
    go_wp2_with fail
    go_ret
    exact ⟨rfl, rfl⟩
  have g26 : (n.toList == [91]) = false := by rw [Lib.toList_data, beq_eq_false_iff_ne]; exact h26
  have b26 := beq_eq_false_iff_ne.2 h26
  clear h26
  by_cases h27 : n.data.toList = [93]
  · have HT : mkB n.data.toList = true := by rw [h27]; decide
    rw [HT]
    have g27 : (n.toList == [93]) = true := by rw [Lib.toList_data, h27]; rfl
    clear HT h27
    go_enter Tryz.func129, Tryz.ntmps129
    go_wp2_with fail
    go_ret
    exact ⟨rfl, rfl⟩
  have g27 : (n.toList == [93]) = false := by rw [Lib.toList_data, beq_eq_false_iff_ne]; exact h27
  have b27 := beq_eq_false_iff_ne.2 h27
  clear h27
  by_cases h28 : n.data.toList = [123]
  · have HT : mkB n.data.toList = true := by rw [h28]; decide
    rw [HT]
    have g28 : (n.toList == [123]) = true := by rw [Lib.toList_data, h28]; rfl
    clear HT h28
    go_enter Tryz.func129, Tryz.ntmps129
    go_wp2_with fail
    go_ret
    exact ⟨rfl, rfl⟩
  have g28 : (n.toList == [123]) = false := by rw [Lib.toList_data, beq_eq_false_iff_ne]; exact h28
  have b28 := beq_eq_false_iff_ne.2 h28
  clear h28
  by_cases h29 : n.data.toList = [125]
  · have HT : mkB n.data.toList = true := by rw [h29]; decide
    rw [HT]
    have g29 : (n.toList == [125]) = true := by rw [Lib.toList_data, h29]; rfl
    clear HT h29
    go_enter Tryz.func129, Tryz.ntmps129
    go_wp2_with fail
    go_ret
    exact ⟨rfl, rfl⟩
  have g29 : (n.toList == [125]) = false := by rw [Lib.toList_data, beq_eq_false_iff_ne]; exact h29
  have b29 := beq_eq_false_iff_ne.2 h29
  clear h29
  by_cases h30 : n.data.toList = [58]
  · have HT : mkB n.data.toList = true := by rw [h30]; decide
    rw [HT]
    have g30 : (n.toList == [58]) = true := by rw [Lib.toList_data, h30]; rfl
    clear HT h30
    go_enter Tryz.func129, Tryz.ntmps129
    go_wp2_with fail
    go_ret
    exact ⟨rfl, rfl⟩
  have g30 : (n.toList == [58]) = false := by rw [Lib.toList_data, beq_eq_false_iff_ne]; exact h30
  have b30 := beq_eq_false_iff_ne.2 h30
  clear h30
  by_cases h31 : n.data.toList = [59]
  · have HT : mkB n.data.toList = true := by rw [h31]; decide
    rw [HT]
    have g31 : (n.toList == [59]) = true := by rw [Lib.toList_data, h31]; rfl
    clear HT h31
    go_enter Tryz.func129, Tryz.ntmps129
    go_wp2_with fail
    go_ret
    exact ⟨rfl, rfl⟩
  have g31 : (n.toList == [59]) = false := by rw [Lib.toList_data, beq_eq_false_iff_ne]; exact h31
  have b31 := beq_eq_false_iff_ne.2 h31
  clear h31
  by_cases h32 : n.data.toList = [63]
  · have HT : mkB n.data.toList = true := by rw [h32]; decide
    rw [HT]
    have g32 : (n.toList == [63]) = true := by rw [Lib.toList_data, h32]; rfl
    clear HT h32
    go_enter Tryz.func129, Tryz.ntmps129
    go_wp2_with fail
    go_ret
    exact ⟨rfl, rfl⟩
  have g32 : (n.toList == [63]) = false := by rw [Lib.toList_data, beq_eq_false_iff_ne]; exact h32
  have b32 := beq_eq_false_iff_ne.2 h32
  clear h32
  have HT : mkB n.data.toList = false := by
    unfold mkB
    simp only [mkL, mk2L, mk1L, List.cons_append, List.nil_append, List.contains_cons, List.contains_nil, b0, b1, b2, b3, b4, b5, b6, b7, b8, b9, b10, b11, b12, b13, b14, b15, b16, b17, b18, b19, b20, b21, b22, b23, b24, b25, b26, b27, b28, b29, b30, b31, b32, Bool.or_false]
  rw [HT]
  clear HT b0 b1 b2 b3 b4 b5 b6 b7 b8 b9 b10 b11 b12 b13 b14 b15 b16 b17 b18 b19 b20 b21 b22 b23 b24 b25 b26 b27 b28 b29 b30 b31 b32
  go_enter Tryz.func129, Tryz.ntmps129
  go_wp2_with fail
  go_ret
  exact ⟨rfl, rfl⟩

end Go.Proofs.YtohclfgghobldaaGreatDoor
namespace Go.Proofs.YtohclfgghobldaaGreatDoor
open Go.RowKit
set_option linter.unusedVariables false
set_option linter.unusedSimpArgs false

set_option maxRecDepth 100000 in
set_option maxHeartbeats 1600000 in
theorem w_idle (s : ByteArray) (p : Nat) (w : World) (hp : p ≤ s.size) (hs : s.size ≤ 140737488355328) :
    Calls Tryz.prog 14 #[.string s, .int .i64 (p : Int)] w fun e w' => e = .returned (.int .i64 ((idW s.data.toList p : Nat) : Int)) ∧ w' = w := by
  have HB1 : Hid (∀ q u, q ≤ s.size → Calls Tryz.prog 46 #[.string s, .int .i64 (q : Int), .func (.func 47) #[] #[]] u fun e w' => e = .returned (.int .i64 ((bhP blB s.data.toList q : Nat) : Int)) ∧ w' = u) := fun q u hq => w_bhBlank s q u hq hs
  have HB2 : Hid (∀ q u, q ≤ s.size → Calls Tryz.prog 46 #[.string s, .int .i64 (q : Int), .func (.func 48) #[] #[]] u fun e w' => e = .returned (.int .i64 ((bhP rmB s.data.toList q : Nat) : Int)) ∧ w' = u) := fun q u hq => w_bhRemark s q u hq hs
  obtain ⟨l, hl⟩ : ∃ l, l = s.data.toList := ⟨_, rfl⟩
  have HL : Hid (l.length = s.size) := by show _ = _; rw [hl]; exact size_lst s
  have HG : Hid (∀ q (h : q < s.size), l.getD q 0 = s[q]) := fun q h => by rw [hl]; exact getD_byte h
  rw [← hl] at HB1 HB2 ⊢
  clear hl
  have HGE : Hid (∀ (P : UInt8 → Bool) q, q ≤ s.size → bhP P l q ≤ s.size) := fun P q hq => by rw [← HL.out]; exact (bhP_ge P (by rw [HL.out]; exact hq)).2
  obtain ⟨q0, hq0⟩ : ∃ q0, bhP blB l p = q0 := ⟨_, rfl⟩
  have HI : Hid (idW l p = idF l (l.length + 1) q0) := by show _ = _; unfold idW; rw [hq0]
  have HC := Hid.mk (fun u => HB1.out p u hp)
  rw [hq0] at HC
  have hq0s : q0 ≤ s.size := by rw [← hq0]; exact HGE.out _ p hp
  clear hq0
  go_enter Tryz.func14, Tryz.ntmps14
  go_wp2_with fail
  refine (HC.out _).mono ?_
  rintro e w1 ⟨rfl, hw1⟩
  obtain rfl := hw1.symm
  go_wp2_with fail
  go_loopw [1] (fun a wr => ∃ q : Nat, q ≤ s.size ∧ a = .int .i64 (q : Int) ∧ Hid (idW l p = idF l (l.length + 1) q) ∧ wr = w) (fun a _ => s.size - (intOf a).toNat)
  case atStart => exact ⟨q0, hq0s, rfl, HI.out, rfl⟩
  case round =>
    obtain ⟨q, hq, rfl, HQ, rfl⟩ := hrel
    clear HI HC hq0s
    by_cases hlt : q < s.size
    · have hi1 : (q : Int) < (s.size : Int) := by omega
      have hi0 : (0 : Int) ≤ (q : Int) := by omega
      have hd := HG.out q hlt
      by_cases h35 : s[q].toNat = 35
      · have hcd : q < l.length ∧ (l.getD q 0).toNat = 35 := ⟨by rw [HL.out]; exact hlt, by rw [hd]; exact h35⟩
        have hgt := (rm_gt hcd).1
        have HST := Hid.mk (HQ.out.trans (idF_remark hcd))
        have h35i : ((s[q].toNat : Nat) : Int) = 35 := by omega
        obtain ⟨r, hr⟩ : ∃ r, bhP rmB l q = r := ⟨_, rfl⟩
        have HR1 := Hid.mk (fun u => HB2.out q u hq)
        have hrs := HGE.out rmB q hq
        rw [hr] at HST HR1 hrs hgt
        obtain ⟨r2, hr2⟩ : ∃ r2, bhP blB l r = r2 := ⟨_, rfl⟩
        have HR2 := Hid.mk (fun u => HB1.out r u hrs)
        have hrs2 := HGE.out blB r hrs
        rw [hr2] at HST HR2 hrs2 hgt
        clear hr hr2 hcd hd h35
        go_wp2_with fail
        refine (HR1.out _).mono ?_
        rintro e w1 ⟨rfl, hw1⟩
        obtain rfl := hw1.symm
        go_wp2_with fail
        refine (HR2.out _).mono ?_
        rintro e w1 ⟨rfl, hw1⟩
        obtain rfl := hw1.symm
        go_wp2_with fail
        go_roundw
        case rel => exact ⟨r2, hrs2, by first | rfl | go_num, HST, by first | rfl | trivial⟩
        case measure => simp [intOf]; omega
      · have hcd : ¬ (q < l.length ∧ (l.getD q 0).toNat = 35) := fun h => h35 (by rw [← hd]; exact h.2)
        have HST := Hid.mk (HQ.out.trans (idF_rest hcd))
        have h35i : ¬ ((s[q].toNat : Nat) : Int) = 35 := by omega
        clear hcd hd h35
        go_wp2_with fail
        go_ret
        exact ⟨by rw [HST.out]; first | done | rfl, rfl⟩
    · have hi1 : ¬ (q : Int) < (s.size : Int) := by omega
      have HST := Hid.mk (HQ.out.trans (idF_rest (by rw [HL.out]; exact fun h => hlt h.1)))
      go_wp2_with fail
      go_ret
      exact ⟨by rw [HST.out]; first | done | rfl, rfl⟩

/-- the longest mark no longer than this -/
def mkK (l : List UInt8) (p : Nat) : Nat → List UInt8
  | 0 => []
  | k + 1 => if mkB ((l.drop p).take (k + 1)) = true then (l.drop p).take (k + 1) else mkK l p k
theorem mkK_less {l : List UInt8} {p k : Nat} (h : l.length - p ≤ k) : mkK l p (k + 1) = mkK l p k := by
  have e : (l.drop p).take (k + 1) = (l.drop p).take k := by rw [List.take_of_length_le (by simp; omega), List.take_of_length_le (by simp; omega)]
  rw [mkK, e]
  cases k with
  | zero => rw [List.take_zero]; rw [if_neg (by decide)]
  | succ k =>
    rw [mkK]
    split
    · rfl
    · next h2 => rfl
theorem mkK_min (l : List UInt8) (p : Nat) : mkW l p = mkK l p (min 3 (l.length - p)) := by
  show mkK l p 3 = _
  by_cases h3 : 3 ≤ l.length - p
  · rw [show min 3 (l.length - p) = 3 by omega]
  rw [mkK_less (by omega)]
  by_cases h2 : 2 ≤ l.length - p
  · rw [show min 3 (l.length - p) = 2 by omega]
  rw [mkK_less (by omega)]
  by_cases h1 : 1 ≤ l.length - p
  · rw [show min 3 (l.length - p) = 1 by omega]
  rw [mkK_less (by omega), show min 3 (l.length - p) = 0 by omega]
theorem mkK_len (l : List UInt8) (p : Nat) : ∀ k, (mkK l p k).length ≤ l.length - p := by
  intro k
  induction k with
  | zero => exact Nat.zero_le _
  | succ k ih =>
    rw [mkK]
    split
    · simp; omega
    · exact ih

set_option maxRecDepth 100000 in
set_option maxHeartbeats 1600000 in
theorem w_markAt (s : ByteArray) (p : Nat) (w : World) (hp : p < s.size) (hs : s.size ≤ 140737488355328) :
    Calls Tryz.prog 103 #[.string s, .int .i64 (p : Int)] w fun e w' => e = .returned (.string ⟨(mkW s.data.toList p).toArray⟩) ∧ w' = w := by
  have HM := Hid.mk (fun n u => w_wMarked n u)
  have HX : Hid (∀ k, p + k ≤ s.size → s.extract p (p + k) = ⟨((s.data.toList.drop p).take k).toArray⟩) := fun k hk => by
    have := ext_cut s p (p + k) hk
    unfold cut at this
    rw [show p + k - p = k by omega] at this
    exact this
  have HK := Hid.mk (mkK_min s.data.toList p)
  rw [size_lst] at HK
  generalize s.data.toList = l at *
  obtain ⟨m, hm⟩ : ∃ m, min 3 (s.size - p) = m := ⟨_, rfl⟩
  rw [hm] at HK
  have HMI : Hid (min (3 : Int) ((s.size : Int) - (p : Int)) = (m : Int)) := by show _ = _; omega
  have hm3 : m ≤ 3 := by omega
  have hms : p + m ≤ s.size := by omega
  clear hm
  by_cases hc3 : (3 : Int) ≤ (s.size : Int) - (p : Int)
  all_goals
    have hmi := HMI.out
    go_enter Tryz.func103, Tryz.ntmps103
    go_wp2_with fail
    go_loopw [5] (fun a wr => ∃ k : Nat, k ≤ m ∧ a = .int .i64 (k : Int) ∧ Hid (mkW l p = mkK l p k) ∧ wr = w) (fun a _ => (intOf a).toNat)
    case atStart => exact ⟨m, Nat.le_refl _, by rw [← HMI.out], HK.out, rfl⟩
    case round =>
      obtain ⟨k, hk, rfl, HQ, rfl⟩ := hrel
      clear HK HMI hmi
      by_cases h0 : 0 < k
      · have hi0 : (0 : Int) < (k : Int) := by omega
        obtain ⟨j, rfl⟩ : ∃ j, k = j + 1 := ⟨k - 1, by omega⟩
        have hx := HX.out (j + 1) (by omega)
        have HMk := Hid.mk (fun u => HM.out (s.extract p (p + (j + 1))) u)
        rw [hx] at HMk
        have HQ2 : Hid (mkW l p = if mkB ((l.drop p).take (j + 1)) = true then (l.drop p).take (j + 1) else mkK l p j) := HQ.out
        have HX2 := Hid.mk hx
        rw [arr_lst] at HMk
        rw [← hx] at HMk
        generalize (l.drop p).take (j + 1) = tk at *
        clear HQ
        have hs0 : (0 : Int) ≤ (p : Int) := by omega
        have hs1 : (p : Int) ≤ (p : Int) + ((j : Int) + 1) := by omega
        have hs2 : (p : Int) + ((j : Int) + 1) ≤ (s.size : Int) := by omega
        cases hb : mkB tk with
        | true =>
          rw [hb] at HMk
          rw [if_pos hb] at HQ2
          clear hb hx
          go_wp2_with fail
          refine (HMk.out _).mono ?_
          rintro e w1 ⟨rfl, hw1⟩
          obtain rfl := hw1.symm
          go_wp2_with fail
          go_ret
          exact ⟨by rw [HQ2.out, ← HX2.out]; first | rfl | go_num, rfl⟩
        | false =>
          rw [hb] at HMk
          rw [if_neg (by rw [hb]; decide)] at HQ2
          clear hb hx
          go_wp2_with fail
          refine (HMk.out _).mono ?_
          rintro e w1 ⟨rfl, hw1⟩
          obtain rfl := hw1.symm
          go_wp2_with fail
          go_roundw
          case rel => exact ⟨j, by omega, by go_num, HQ2, by first | rfl | trivial⟩
          case measure => simp [intOf]
      · have hi0 : ¬ (0 : Int) < (k : Int) := by omega
        have HE : Hid (mkW l p = []) := by show _ = _; rw [HQ.out, show k = 0 by omega]; rfl
        go_wp2_with fail
        go_ret
        exact ⟨by rw [HE.out]; first | done | rfl, rfl⟩
end Go.Proofs.YtohclfgghobldaaGreatDoor
namespace Go.Proofs.YtohclfgghobldaaGreatDoor
open Go.RowKit Go.Shelf
set_option linter.unusedVariables false
set_option linter.unusedSimpArgs false

theorem mk_two {m : List UInt8} (h : mk2L.contains m = true) : m.length = 2 := by
  have h1 : ∀ x ∈ mk2L, x.length = 2 := by decide
  exact h1 m (List.contains_iff_mem.1 h)
theorem mk_one {m : List UInt8} (h : mk1L.contains m = true) : m.length = 1 := by
  have h1 : ∀ x ∈ mk1L, x.length = 1 := by decide
  exact h1 m (List.contains_iff_mem.1 h)
theorem mkB_or (m : List UInt8) : mkB m = (m == [47, 47, 61] || (mk2L.contains m || mk1L.contains m)) := by
  have e : mkL = [47, 47, 61] :: (mk2L ++ mk1L) := rfl
  unfold mkB
  rw [e, List.contains_cons, List.contains_append]
theorem mkB3 {m : List UInt8} (h : m.length = 3) : mkB m = (m == [47, 47, 61]) := by
  rw [mkB_or]
  cases h2 : mk2L.contains m with
  | true => have := mk_two h2; omega
  | false =>
    cases h1 : mk1L.contains m with
    | true => have := mk_one h1; omega
    | false => simp
theorem mkB2 {m : List UInt8} (h : m.length = 2) : mkB m = mk2L.contains m := by
  rw [mkB_or]
  have h3 : (m == [47, 47, 61]) = false := by rw [beq_eq_false_iff_ne]; intro e; rw [e] at h; simp at h
  rw [h3]
  cases h1 : mk1L.contains m with
  | true => have := mk_one h1; omega
  | false => simp
theorem mkB1 {m : List UInt8} (h : m.length = 1) : mkB m = mk1L.contains m := by
  rw [mkB_or]
  have h3 : (m == [47, 47, 61]) = false := by rw [beq_eq_false_iff_ne]; intro e; rw [e] at h; simp at h
  rw [h3]
  cases h2 : mk2L.contains m with
  | true => have := mk_two h2; omega
  | false => simp
/-- how long the mark is -/
def rmk (l : List UInt8) (p : Nat) : Nat :=
  if p + 3 ≤ l.length ∧ (l.drop p).take 3 = [47, 47, 61] then 3 else if p + 2 ≤ l.length ∧ mk2L.contains ((l.drop p).take 2) = true then 2 else if mk1L.contains [l.getD p 0] = true then 1 else 0
theorem take_one {l : List UInt8} {p : Nat} (hp : p < l.length) : (l.drop p).take 1 = [l.getD p 0] := by rw [drop_getD hp]; rfl
theorem rmk_eq {l : List UInt8} {p : Nat} (hp : p < l.length) : (mkW l p).length = rmk l p ∧ mkW l p = (l.drop p).take (rmk l p) := by
  have hlen : ∀ k, p + k ≤ l.length → ((l.drop p).take k).length = k := fun k hk => by rw [List.length_take, List.length_drop]; omega
  have e0 : mkW l p = mkK l p (min 3 (l.length - p)) := mkK_min l p
  unfold rmk
  have t1 := take_one hp
  have b1 := mkB1 (hlen 1 (by omega))
  rw [t1] at b1
  have k1 : mkK l p 1 = if mk1L.contains [l.getD p 0] = true then (l.drop p).take 1 else [] := by
    rw [mkK, t1, b1]; rfl
  by_cases h2 : p + 2 ≤ l.length
  · have b2 := mkB2 (hlen 2 h2)
    have k2 : mkK l p 2 = if mk2L.contains ((l.drop p).take 2) = true then (l.drop p).take 2 else mkK l p 1 := by rw [mkK, b2]
    by_cases h3 : p + 3 ≤ l.length
    · have b3 := mkB3 (hlen 3 h3)
      have k3 : mkK l p 3 = if (l.drop p).take 3 = [47, 47, 61] then (l.drop p).take 3 else mkK l p 2 := by
        rw [mkK, b3]
        by_cases h : (l.drop p).take 3 = [47, 47, 61]
        · rw [if_pos h, if_pos (by rw [h]; rfl)]
        · rw [if_neg h, if_neg (by rw [beq_eq_false_iff_ne.2 h]; decide)]
      rw [e0, show min 3 (l.length - p) = 3 by omega, k3]
      by_cases h : (l.drop p).take 3 = [47, 47, 61]
      · rw [if_pos h, if_pos ⟨h3, h⟩]
        exact ⟨hlen 3 h3, rfl⟩
      · rw [if_neg h, if_neg (fun g => h g.2), k2]
        by_cases g : mk2L.contains ((l.drop p).take 2) = true
        · rw [if_pos g, if_pos ⟨h2, g⟩]; exact ⟨hlen 2 h2, rfl⟩
        · rw [if_neg g, if_neg (fun q => g q.2), k1]
          split
          · exact ⟨hlen 1 (by omega), rfl⟩
          · exact ⟨rfl, rfl⟩
    · rw [e0, show min 3 (l.length - p) = 2 by omega, if_neg (fun g => h3 g.1), k2]
      by_cases g : mk2L.contains ((l.drop p).take 2) = true
      · rw [if_pos g, if_pos ⟨h2, g⟩]; exact ⟨hlen 2 h2, rfl⟩
      · rw [if_neg g, if_neg (fun q => g q.2), k1]
        split
        · exact ⟨hlen 1 (by omega), rfl⟩
        · exact ⟨rfl, rfl⟩
  · rw [e0, show min 3 (l.length - p) = 1 by omega, if_neg (fun g => by omega), if_neg (fun g => h2 g.1), k1]
    split
    · exact ⟨hlen 1 (by omega), rfl⟩
    · exact ⟨rfl, rfl⟩

def rk1 (c : UInt8) : Nat := if mk1L.contains [c] = true then 1 else 0

set_option maxRecDepth 100000 in
set_option maxHeartbeats 6400000 in
theorem w_rmark1 (s : ByteArray) (p : Nat) (w : World) (hp : p < s.size) (hs : s.size ≤ 140737488355328) (H3 : ¬ (p : Int) + 3 ≤ (s.size : Int) ∨ ((p : Int) + 3 ≤ (s.size : Int) ∧ ((s.extract p (p + 3)).toList == [47, 47, 61]) = false)) (H2 : ¬ (p : Int) + 2 ≤ (s.size : Int) ∨ ((p : Int) + 2 ≤ (s.size : Int) ∧ ((s.extract p (p + 2)).toList == [46, 46]) = false ∧ ((s.extract p (p + 2)).toList == [124, 61]) = false ∧ ((s.extract p (p + 2)).toList == [43, 61]) = false ∧ ((s.extract p (p + 2)).toList == [45, 61]) = false ∧ ((s.extract p (p + 2)).toList == [42, 61]) = false ∧ ((s.extract p (p + 2)).toList == [47, 61]) = false ∧ ((s.extract p (p + 2)).toList == [37, 61]) = false ∧ ((s.extract p (p + 2)).toList == [61, 61]) = false ∧ ((s.extract p (p + 2)).toList == [33, 61]) = false ∧ ((s.extract p (p + 2)).toList == [60, 61]) = false ∧ ((s.extract p (p + 2)).toList == [62, 61]) = false ∧ ((s.extract p (p + 2)).toList == [47, 47]) = false)) :
    Calls Tryz.prog 45 #[.string s, .int .i64 (p : Int)] w fun e w' => e = .returned (.int .i64 ((rk1 s[p] : Nat) : Int)) ∧ w' = w := by
  have hi0 : (0 : Int) ≤ (p : Int) := by omega
  have hi1 : (p : Int) < (s.size : Int) := by omega
  have hj2 : (p : Int) ≤ (p : Int) + 2 := by omega
  have hj3 : (p : Int) ≤ (p : Int) + 3 := by omega
  rcases H3 with H3 | ⟨H3, g3⟩ <;> rcases H2 with H2 | ⟨H2, g2a, g2b, g2c, g2d, g2e, g2f, g2g, g2h, g2i, g2j, g2k, g2l⟩
  all_goals
    by_cases h0 : s[p].toNat = 124
    · have hc : s[p] = 124 := by apply UInt8.toNat_inj.1; exact h0
      have HT : Hid (rk1 s[p] = 1) := by show _ = _; rw [hc]; decide
      have hci : ((s[p].toNat : Nat) : Int) = 124 := by omega
      clear hc h0
      go_enter Tryz.func45, Tryz.ntmps45
      go_wp2_with fail
      go_ret
      exact ⟨by rw [HT.out]; first | done | rfl, rfl⟩
    have i0 : ¬ ((s[p].toNat : Nat) : Int) = 124 := by omega
    by_cases h1 : s[p].toNat = 44
    · have hc : s[p] = 44 := by apply UInt8.toNat_inj.1; exact h1
      have HT : Hid (rk1 s[p] = 1) := by show _ = _; rw [hc]; decide
      have hci : ((s[p].toNat : Nat) : Int) = 44 := by omega
      clear hc h1
      go_enter Tryz.func45, Tryz.ntmps45
      go_wp2_with fail
      go_ret
      exact ⟨by rw [HT.out]; first | done | rfl, rfl⟩
    have i1 : ¬ ((s[p].toNat : Nat) : Int) = 44 := by omega
    by_cases h2 : s[p].toNat = 61
    · have hc : s[p] = 61 := by apply UInt8.toNat_inj.1; exact h2
      have HT : Hid (rk1 s[p] = 1) := by show _ = _; rw [hc]; decide
      have hci : ((s[p].toNat : Nat) : Int) = 61 := by omega
      clear hc h2
      go_enter Tryz.func45, Tryz.ntmps45
      go_wp2_with fail
      go_ret
      exact ⟨by rw [HT.out]; first | done | rfl, rfl⟩
    have i2 : ¬ ((s[p].toNat : Nat) : Int) = 61 := by omega
    by_cases h3 : s[p].toNat = 60
    · have hc : s[p] = 60 := by apply UInt8.toNat_inj.1; exact h3
      have HT : Hid (rk1 s[p] = 1) := by show _ = _; rw [hc]; decide
      have hci : ((s[p].toNat : Nat) : Int) = 60 := by omega
      clear hc h3
      go_enter Tryz.func45, Tryz.ntmps45
      go_wp2_with fail
      go_ret
      exact ⟨by rw [HT.out]; first | done | rfl, rfl⟩
    have i3 : ¬ ((s[p].toNat : Nat) : Int) = 60 := by omega
    by_cases h4 : s[p].toNat = 62
    · have hc : s[p] = 62 := by apply UInt8.toNat_inj.1; exact h4
      have HT : Hid (rk1 s[p] = 1) := by show _ = _; rw [hc]; decide
      have hci : ((s[p].toNat : Nat) : Int) = 62 := by omega
      clear hc h4
      go_enter Tryz.func45, Tryz.ntmps45
      go_wp2_with fail
      go_ret
      exact ⟨by rw [HT.out]; first | done | rfl, rfl⟩
    have i4 : ¬ ((s[p].toNat : Nat) : Int) = 62 := by omega
    by_cases h5 : s[p].toNat = 43
    · have hc : s[p] = 43 := by apply UInt8.toNat_inj.1; exact h5
      have HT : Hid (rk1 s[p] = 1) := by show _ = _; rw [hc]; decide
      have hci : ((s[p].toNat : Nat) : Int) = 43 := by omega
      clear hc h5
      go_enter Tryz.func45, Tryz.ntmps45
      go_wp2_with fail
      go_ret
      exact ⟨by rw [HT.out]; first | done | rfl, rfl⟩
    have i5 : ¬ ((s[p].toNat : Nat) : Int) = 43 := by omega
    by_cases h6 : s[p].toNat = 45
    · have hc : s[p] = 45 := by apply UInt8.toNat_inj.1; exact h6
      have HT : Hid (rk1 s[p] = 1) := by show _ = _; rw [hc]; decide
      have hci : ((s[p].toNat : Nat) : Int) = 45 := by omega
      clear hc h6
      go_enter Tryz.func45, Tryz.ntmps45
      go_wp2_with fail
      go_ret
      exact ⟨by rw [HT.out]; first | done | rfl, rfl⟩
    have i6 : ¬ ((s[p].toNat : Nat) : Int) = 45 := by omega
    by_cases h7 : s[p].toNat = 42
    · have hc : s[p] = 42 := by apply UInt8.toNat_inj.1; exact h7
      have HT : Hid (rk1 s[p] = 1) := by show _ = _; rw [hc]; decide
      have hci : ((s[p].toNat : Nat) : Int) = 42 := by omega
      clear hc h7
      go_enter Tryz.func45, Tryz.ntmps45
      go_wp2_with fail
      go_ret
      exact ⟨by rw [HT.out]; first | done | rfl, rfl⟩
    have i7 : ¬ ((s[p].toNat : Nat) : Int) = 42 := by omega
    by_cases h8 : s[p].toNat = 47
    · have hc : s[p] = 47 := by apply UInt8.toNat_inj.1; exact h8
      have HT : Hid (rk1 s[p] = 1) := by show _ = _; rw [hc]; decide
      have hci : ((s[p].toNat : Nat) : Int) = 47 := by omega
      clear hc h8
      go_enter Tryz.func45, Tryz.ntmps45
      go_wp2_with fail
      go_ret
      exact ⟨by rw [HT.out]; first | done | rfl, rfl⟩
    have i8 : ¬ ((s[p].toNat : Nat) : Int) = 47 := by omega
    by_cases h9 : s[p].toNat = 37
    · have hc : s[p] = 37 := by apply UInt8.toNat_inj.1; exact h9
      have HT : Hid (rk1 s[p] = 1) := by show _ = _; rw [hc]; decide
      have hci : ((s[p].toNat : Nat) : Int) = 37 := by omega
      clear hc h9
      go_enter Tryz.func45, Tryz.ntmps45
      go_wp2_with fail
      go_ret
      exact ⟨by rw [HT.out]; first | done | rfl, rfl⟩
    have i9 : ¬ ((s[p].toNat : Nat) : Int) = 37 := by omega
    by_cases h10 : s[p].toNat = 46
    · have hc : s[p] = 46 := by apply UInt8.toNat_inj.1; exact h10
      have HT : Hid (rk1 s[p] = 1) := by show _ = _; rw [hc]; decide
      have hci : ((s[p].toNat : Nat) : Int) = 46 := by omega
      clear hc h10
      go_enter Tryz.func45, Tryz.ntmps45
      go_wp2_with fail
      go_ret
      exact ⟨by rw [HT.out]; first | done | rfl, rfl⟩
    have i10 : ¬ ((s[p].toNat : Nat) : Int) = 46 := by omega
    by_cases h11 : s[p].toNat = 40
    · have hc : s[p] = 40 := by apply UInt8.toNat_inj.1; exact h11
      have HT : Hid (rk1 s[p] = 1) := by show _ = _; rw [hc]; decide
      have hci : ((s[p].toNat : Nat) : Int) = 40 := by omega
      clear hc h11
      go_enter Tryz.func45, Tryz.ntmps45
      go_wp2_with fail
      go_ret
      exact ⟨by rw [HT.out]; first | done | rfl, rfl⟩
    have i11 : ¬ ((s[p].toNat : Nat) : Int) = 40 := by omega
    by_cases h12 : s[p].toNat = 41
    · have hc : s[p] = 41 := by apply UInt8.toNat_inj.1; exact h12
      have HT : Hid (rk1 s[p] = 1) := by show _ = _; rw [hc]; decide
      have hci : ((s[p].toNat : Nat) : Int) = 41 := by omega
      clear hc h12
      go_enter Tryz.func45, Tryz.ntmps45
      go_wp2_with fail
      go_ret
      exact ⟨by rw [HT.out]; first | done | rfl, rfl⟩
    have i12 : ¬ ((s[p].toNat : Nat) : Int) = 41 := by omega
    by_cases h13 : s[p].toNat = 91
    · have hc : s[p] = 91 := by apply UInt8.toNat_inj.1; exact h13
      have HT : Hid (rk1 s[p] = 1) := by show _ = _; rw [hc]; decide
      have hci : ((s[p].toNat : Nat) : Int) = 91 := by omega
      clear hc h13
      go_enter Tryz.func45, Tryz.ntmps45
      go_wp2_with fail
      go_ret
      exact ⟨by rw [HT.out]; first | done | rfl, rfl⟩
    have i13 : ¬ ((s[p].toNat : Nat) : Int) = 91 := by omega
    by_cases h14 : s[p].toNat = 93
    · have hc : s[p] = 93 := by apply UInt8.toNat_inj.1; exact h14
      have HT : Hid (rk1 s[p] = 1) := by show _ = _; rw [hc]; decide
      have hci : ((s[p].toNat : Nat) : Int) = 93 := by omega
      clear hc h14
      go_enter Tryz.func45, Tryz.ntmps45
      go_wp2_with fail
      go_ret
      exact ⟨by rw [HT.out]; first | done | rfl, rfl⟩
    have i14 : ¬ ((s[p].toNat : Nat) : Int) = 93 := by omega
    by_cases h15 : s[p].toNat = 123
    · have hc : s[p] = 123 := by apply UInt8.toNat_inj.1; exact h15
      have HT : Hid (rk1 s[p] = 1) := by show _ = _; rw [hc]; decide
      have hci : ((s[p].toNat : Nat) : Int) = 123 := by omega
      clear hc h15
      go_enter Tryz.func45, Tryz.ntmps45
      go_wp2_with fail
      go_ret
      exact ⟨by rw [HT.out]; first | done | rfl, rfl⟩
    have i15 : ¬ ((s[p].toNat : Nat) : Int) = 123 := by omega
    by_cases h16 : s[p].toNat = 125
    · have hc : s[p] = 125 := by apply UInt8.toNat_inj.1; exact h16
      have HT : Hid (rk1 s[p] = 1) := by show _ = _; rw [hc]; decide
      have hci : ((s[p].toNat : Nat) : Int) = 125 := by omega
      clear hc h16
      go_enter Tryz.func45, Tryz.ntmps45
      go_wp2_with fail
      go_ret
      exact ⟨by rw [HT.out]; first | done | rfl, rfl⟩
    have i16 : ¬ ((s[p].toNat : Nat) : Int) = 125 := by omega
    by_cases h17 : s[p].toNat = 58
    · have hc : s[p] = 58 := by apply UInt8.toNat_inj.1; exact h17
      have HT : Hid (rk1 s[p] = 1) := by show _ = _; rw [hc]; decide
      have hci : ((s[p].toNat : Nat) : Int) = 58 := by omega
      clear hc h17
      go_enter Tryz.func45, Tryz.ntmps45
      go_wp2_with fail
      go_ret
      exact ⟨by rw [HT.out]; first | done | rfl, rfl⟩
    have i17 : ¬ ((s[p].toNat : Nat) : Int) = 58 := by omega
    by_cases h18 : s[p].toNat = 59
    · have hc : s[p] = 59 := by apply UInt8.toNat_inj.1; exact h18
      have HT : Hid (rk1 s[p] = 1) := by show _ = _; rw [hc]; decide
      have hci : ((s[p].toNat : Nat) : Int) = 59 := by omega
      clear hc h18
      go_enter Tryz.func45, Tryz.ntmps45
      go_wp2_with fail
      go_ret
      exact ⟨by rw [HT.out]; first | done | rfl, rfl⟩
    have i18 : ¬ ((s[p].toNat : Nat) : Int) = 59 := by omega
    by_cases h19 : s[p].toNat = 63
    · have hc : s[p] = 63 := by apply UInt8.toNat_inj.1; exact h19
      have HT : Hid (rk1 s[p] = 1) := by show _ = _; rw [hc]; decide
      have hci : ((s[p].toNat : Nat) : Int) = 63 := by omega
      clear hc h19
      go_enter Tryz.func45, Tryz.ntmps45
      go_wp2_with fail
      go_ret
      exact ⟨by rw [HT.out]; first | done | rfl, rfl⟩
    have i19 : ¬ ((s[p].toNat : Nat) : Int) = 63 := by omega
    have HT : Hid (rk1 s[p] = 0) := by
      show _ = _
      unfold rk1
      rw [if_neg]
      intro h
      have hq := List.contains_iff_mem.1 h
      simp only [mk1L, List.mem_cons, List.cons.injEq, and_true, List.mem_nil_iff, or_false] at hq
      rcases hq with hq | hq | hq | hq | hq | hq | hq | hq | hq | hq | hq | hq | hq | hq | hq | hq | hq | hq | hq | hq
      all_goals first | exact h0 (by rw [hq]; rfl) | exact h1 (by rw [hq]; rfl) | exact h2 (by rw [hq]; rfl) | exact h3 (by rw [hq]; rfl) | exact h4 (by rw [hq]; rfl) | exact h5 (by rw [hq]; rfl) | exact h6 (by rw [hq]; rfl) | exact h7 (by rw [hq]; rfl) | exact h8 (by rw [hq]; rfl) | exact h9 (by rw [hq]; rfl) | exact h10 (by rw [hq]; rfl) | exact h11 (by rw [hq]; rfl) | exact h12 (by rw [hq]; rfl) | exact h13 (by rw [hq]; rfl) | exact h14 (by rw [hq]; rfl) | exact h15 (by rw [hq]; rfl) | exact h16 (by rw [hq]; rfl) | exact h17 (by rw [hq]; rfl) | exact h18 (by rw [hq]; rfl) | exact h19 (by rw [hq]; rfl)
    clear h0 h1 h2 h3 h4 h5 h6 h7 h8 h9 h10 h11 h12 h13 h14 h15 h16 h17 h18 h19
    go_enter Tryz.func45, Tryz.ntmps45
    go_wp2_with fail
    all_goals go_ret
    all_goals exact ⟨by rw [HT.out]; first | done | rfl, rfl⟩

end Go.Proofs.YtohclfgghobldaaGreatDoor
namespace Go.Proofs.YtohclfgghobldaaGreatDoor
open Go.RowKit Go.Shelf
set_option linter.unusedVariables false
set_option linter.unusedSimpArgs false

theorem ext_take (s : ByteArray) (p k : Nat) (hk : p + k ≤ s.size) : (s.extract p (p + k)).toList = (s.data.toList.drop p).take k := by
  rw [Lib.toList_data, extract_lst s p (p + k) hk]
  unfold cut
  rw [show p + k - p = k by omega]

set_option maxRecDepth 100000 in
set_option maxHeartbeats 6400000 in
theorem w_rmark (s : ByteArray) (p : Nat) (w : World) (hp : p < s.size) (hs : s.size ≤ 140737488355328) :
    Calls Tryz.prog 45 #[.string s, .int .i64 (p : Int)] w fun e w' => e = .returned (.int .i64 ((rmk s.data.toList p : Nat) : Int)) ∧ w' = w := by
  have hi0 : (0 : Int) ≤ (p : Int) := by omega
  have hj2 : (p : Int) ≤ (p : Int) + 2 := by omega
  have hj3 : (p : Int) ≤ (p : Int) + 3 := by omega
  have hi1 : (p : Int) < (s.size : Int) := by omega
  have hpl : p < s.data.toList.length := by rw [size_lst]; exact hp
  by_cases h3 : p + 3 ≤ s.size ∧ (s.data.toList.drop p).take 3 = [47, 47, 61]
  · have HT : Hid (rmk s.data.toList p = 3) := by show _ = _; unfold rmk; rw [size_lst, if_pos h3]
    have H3 : (p : Int) + 3 ≤ (s.size : Int) := by omega
    have g3 : ((s.extract p (p + 3)).toList == [47, 47, 61]) = true := by rw [ext_take s p 3 h3.1, h3.2]; rfl
    clear h3
    go_enter Tryz.func45, Tryz.ntmps45
    go_wp2_with fail
    go_ret
    exact ⟨by rw [HT.out]; first | done | rfl, rfl⟩
  have H3 : ¬ (p : Int) + 3 ≤ (s.size : Int) ∨ ((p : Int) + 3 ≤ (s.size : Int) ∧ ((s.extract p (p + 3)).toList == [47, 47, 61]) = false) := by
    by_cases h : p + 3 ≤ s.size
    · right
      refine ⟨by omega, ?_⟩
      rw [ext_take s p 3 h, beq_eq_false_iff_ne]
      exact fun e => h3 ⟨h, e⟩
    · left; omega
  by_cases h2 : p + 2 ≤ s.size
  · have H2 : (p : Int) + 2 ≤ (s.size : Int) := by omega
    have HX := ext_take s p 2 h2
    by_cases q0 : (s.data.toList.drop p).take 2 = [46, 46]
    · have HT : Hid (rmk s.data.toList p = 2) := by show _ = _; unfold rmk; rw [size_lst, if_neg h3, if_pos ⟨h2, by rw [q0]; decide⟩]
      have g0 : ((s.extract p (p + 2)).toList == [46, 46]) = true := by rw [HX, q0]; rfl
      clear q0 h3 HX
      rcases H3 with H3 | ⟨H3, g3⟩
      · skip
        go_enter Tryz.func45, Tryz.ntmps45
        go_wp2_with fail
        go_ret
        exact ⟨by rw [HT.out]; first | done | rfl, rfl⟩
      · skip
        go_enter Tryz.func45, Tryz.ntmps45
        go_wp2_with fail
        go_ret
        exact ⟨by rw [HT.out]; first | done | rfl, rfl⟩
    have g0 : ((s.extract p (p + 2)).toList == [46, 46]) = false := by rw [HX, beq_eq_false_iff_ne]; exact q0
    by_cases q1 : (s.data.toList.drop p).take 2 = [124, 61]
    · have HT : Hid (rmk s.data.toList p = 2) := by show _ = _; unfold rmk; rw [size_lst, if_neg h3, if_pos ⟨h2, by rw [q1]; decide⟩]
      have g1 : ((s.extract p (p + 2)).toList == [124, 61]) = true := by rw [HX, q1]; rfl
      clear q1 h3 HX
      rcases H3 with H3 | ⟨H3, g3⟩
      · skip
        go_enter Tryz.func45, Tryz.ntmps45
        go_wp2_with fail
        go_ret
        exact ⟨by rw [HT.out]; first | done | rfl, rfl⟩
      · skip
        go_enter Tryz.func45, Tryz.ntmps45
        go_wp2_with fail
        go_ret
        exact ⟨by rw [HT.out]; first | done | rfl, rfl⟩
    have g1 : ((s.extract p (p + 2)).toList == [124, 61]) = false := by rw [HX, beq_eq_false_iff_ne]; exact q1
    by_cases q2 : (s.data.toList.drop p).take 2 = [43, 61]
    · have HT : Hid (rmk s.data.toList p = 2) := by show _ = _; unfold rmk; rw [size_lst, if_neg h3, if_pos ⟨h2, by rw [q2]; decide⟩]
      have g2 : ((s.extract p (p + 2)).toList == [43, 61]) = true := by rw [HX, q2]; rfl
      clear q2 h3 HX
      rcases H3 with H3 | ⟨H3, g3⟩
      · skip
        go_enter Tryz.func45, Tryz.ntmps45
        go_wp2_with fail
        go_ret
        exact ⟨by rw [HT.out]; first | done | rfl, rfl⟩
      · skip
        go_enter Tryz.func45, Tryz.ntmps45
        go_wp2_with fail
        go_ret
        exact ⟨by rw [HT.out]; first | done | rfl, rfl⟩
    have g2 : ((s.extract p (p + 2)).toList == [43, 61]) = false := by rw [HX, beq_eq_false_iff_ne]; exact q2
    by_cases q3 : (s.data.toList.drop p).take 2 = [45, 61]
    · have HT : Hid (rmk s.data.toList p = 2) := by show _ = _; unfold rmk; rw [size_lst, if_neg h3, if_pos ⟨h2, by rw [q3]; decide⟩]
      have g3 : ((s.extract p (p + 2)).toList == [45, 61]) = true := by rw [HX, q3]; rfl
      clear q3 h3 HX
      rcases H3 with H3 | ⟨H3, g3⟩
      · skip
        go_enter Tryz.func45, Tryz.ntmps45
        go_wp2_with fail
        go_ret
        exact ⟨by rw [HT.out]; first | done | rfl, rfl⟩
      · skip
        go_enter Tryz.func45, Tryz.ntmps45
        go_wp2_with fail
        go_ret
        exact ⟨by rw [HT.out]; first | done | rfl, rfl⟩
    have g3 : ((s.extract p (p + 2)).toList == [45, 61]) = false := by rw [HX, beq_eq_false_iff_ne]; exact q3
    by_cases q4 : (s.data.toList.drop p).take 2 = [42, 61]
    · have HT : Hid (rmk s.data.toList p = 2) := by show _ = _; unfold rmk; rw [size_lst, if_neg h3, if_pos ⟨h2, by rw [q4]; decide⟩]
      have g4 : ((s.extract p (p + 2)).toList == [42, 61]) = true := by rw [HX, q4]; rfl
      clear q4 h3 HX
      rcases H3 with H3 | ⟨H3, g3⟩
      · skip
        go_enter Tryz.func45, Tryz.ntmps45
        go_wp2_with fail
        go_ret
        exact ⟨by rw [HT.out]; first | done | rfl, rfl⟩
      · skip
        go_enter Tryz.func45, Tryz.ntmps45
        go_wp2_with fail
        go_ret
        exact ⟨by rw [HT.out]; first | done | rfl, rfl⟩
    have g4 : ((s.extract p (p + 2)).toList == [42, 61]) = false := by rw [HX, beq_eq_false_iff_ne]; exact q4
    by_cases q5 : (s.data.toList.drop p).take 2 = [47, 61]
    · have HT : Hid (rmk s.data.toList p = 2) := by show _ = _; unfold rmk; rw [size_lst, if_neg h3, if_pos ⟨h2, by rw [q5]; decide⟩]
      have g5 : ((s.extract p (p + 2)).toList == [47, 61]) = true := by rw [HX, q5]; rfl
      clear q5 h3 HX
      rcases H3 with H3 | ⟨H3, g3⟩
      · skip
        go_enter Tryz.func45, Tryz.ntmps45
        go_wp2_with fail
        go_ret
        exact ⟨by rw [HT.out]; first | done | rfl, rfl⟩
      · skip
        go_enter Tryz.func45, Tryz.ntmps45
        go_wp2_with fail
        go_ret
        exact ⟨by rw [HT.out]; first | done | rfl, rfl⟩
    have g5 : ((s.extract p (p + 2)).toList == [47, 61]) = false := by rw [HX, beq_eq_false_iff_ne]; exact q5
    by_cases q6 : (s.data.toList.drop p).take 2 = [37, 61]
    · have HT : Hid (rmk s.data.toList p = 2) := by show _ = _; unfold rmk; rw [size_lst, if_neg h3, if_pos ⟨h2, by rw [q6]; decide⟩]
      have g6 : ((s.extract p (p + 2)).toList == [37, 61]) = true := by rw [HX, q6]; rfl
      clear q6 h3 HX
      rcases H3 with H3 | ⟨H3, g3⟩
      · skip
        go_enter Tryz.func45, Tryz.ntmps45
        go_wp2_with fail
        go_ret
        exact ⟨by rw [HT.out]; first | done | rfl, rfl⟩
      · skip
        go_enter Tryz.func45, Tryz.ntmps45
        go_wp2_with fail
        go_ret
        exact ⟨by rw [HT.out]; first | done | rfl, rfl⟩
    have g6 : ((s.extract p (p + 2)).toList == [37, 61]) = false := by rw [HX, beq_eq_false_iff_ne]; exact q6
    by_cases q7 : (s.data.toList.drop p).take 2 = [61, 61]
    · have HT : Hid (rmk s.data.toList p = 2) := by show _ = _; unfold rmk; rw [size_lst, if_neg h3, if_pos ⟨h2, by rw [q7]; decide⟩]
      have g7 : ((s.extract p (p + 2)).toList == [61, 61]) = true := by rw [HX, q7]; rfl
      clear q7 h3 HX
      rcases H3 with H3 | ⟨H3, g3⟩
      · skip
        go_enter Tryz.func45, Tryz.ntmps45
        go_wp2_with fail
        go_ret
        exact ⟨by rw [HT.out]; first | done | rfl, rfl⟩
      · skip
        go_enter Tryz.func45, Tryz.ntmps45
        go_wp2_with fail
        go_ret
        exact ⟨by rw [HT.out]; first | done | rfl, rfl⟩
    have g7 : ((s.extract p (p + 2)).toList == [61, 61]) = false := by rw [HX, beq_eq_false_iff_ne]; exact q7
    by_cases q8 : (s.data.toList.drop p).take 2 = [33, 61]
    · have HT : Hid (rmk s.data.toList p = 2) := by show _ = _; unfold rmk; rw [size_lst, if_neg h3, if_pos ⟨h2, by rw [q8]; decide⟩]
      have g8 : ((s.extract p (p + 2)).toList == [33, 61]) = true := by rw [HX, q8]; rfl
      clear q8 h3 HX
      rcases H3 with H3 | ⟨H3, g3⟩
      · skip
        go_enter Tryz.func45, Tryz.ntmps45
        go_wp2_with fail
        go_ret
        exact ⟨by rw [HT.out]; first | done | rfl, rfl⟩
      · skip
        go_enter Tryz.func45, Tryz.ntmps45
        go_wp2_with fail
        go_ret
        exact ⟨by rw [HT.out]; first | done | rfl, rfl⟩
    have g8 : ((s.extract p (p + 2)).toList == [33, 61]) = false := by rw [HX, beq_eq_false_iff_ne]; exact q8
    by_cases q9 : (s.data.toList.drop p).take 2 = [60, 61]
    · have HT : Hid (rmk s.data.toList p = 2) := by show _ = _; unfold rmk; rw [size_lst, if_neg h3, if_pos ⟨h2, by rw [q9]; decide⟩]
      have g9 : ((s.extract p (p + 2)).toList == [60, 61]) = true := by rw [HX, q9]; rfl
      clear q9 h3 HX
      rcases H3 with H3 | ⟨H3, g3⟩
      · skip
        go_enter Tryz.func45, Tryz.ntmps45
        go_wp2_with fail
        go_ret
        exact ⟨by rw [HT.out]; first | done | rfl, rfl⟩
      · skip
        go_enter Tryz.func45, Tryz.ntmps45
        go_wp2_with fail
        go_ret
        exact ⟨by rw [HT.out]; first | done | rfl, rfl⟩
    have g9 : ((s.extract p (p + 2)).toList == [60, 61]) = false := by rw [HX, beq_eq_false_iff_ne]; exact q9
    by_cases q10 : (s.data.toList.drop p).take 2 = [62, 61]
    · have HT : Hid (rmk s.data.toList p = 2) := by show _ = _; unfold rmk; rw [size_lst, if_neg h3, if_pos ⟨h2, by rw [q10]; decide⟩]
      have g10 : ((s.extract p (p + 2)).toList == [62, 61]) = true := by rw [HX, q10]; rfl
      clear q10 h3 HX
      rcases H3 with H3 | ⟨H3, g3⟩
      · skip
        go_enter Tryz.func45, Tryz.ntmps45
        go_wp2_with fail
        go_ret
        exact ⟨by rw [HT.out]; first | done | rfl, rfl⟩
      · skip
        go_enter Tryz.func45, Tryz.ntmps45
        go_wp2_with fail
        go_ret
        exact ⟨by rw [HT.out]; first | done | rfl, rfl⟩
    have g10 : ((s.extract p (p + 2)).toList == [62, 61]) = false := by rw [HX, beq_eq_false_iff_ne]; exact q10
    by_cases q11 : (s.data.toList.drop p).take 2 = [47, 47]
    · have HT : Hid (rmk s.data.toList p = 2) := by show _ = _; unfold rmk; rw [size_lst, if_neg h3, if_pos ⟨h2, by rw [q11]; decide⟩]
      have g11 : ((s.extract p (p + 2)).toList == [47, 47]) = true := by rw [HX, q11]; rfl
      clear q11 h3 HX
      rcases H3 with H3 | ⟨H3, g3⟩
      · skip
        go_enter Tryz.func45, Tryz.ntmps45
        go_wp2_with fail
        go_ret
        exact ⟨by rw [HT.out]; first | done | rfl, rfl⟩
      · skip
        go_enter Tryz.func45, Tryz.ntmps45
        go_wp2_with fail
        go_ret
        exact ⟨by rw [HT.out]; first | done | rfl, rfl⟩
    have g11 : ((s.extract p (p + 2)).toList == [47, 47]) = false := by rw [HX, beq_eq_false_iff_ne]; exact q11
    have hno : mk2L.contains ((s.data.toList.drop p).take 2) = false := by
      simp only [mk2L, List.contains_cons, List.contains_nil, beq_eq_false_iff_ne.2 q0, beq_eq_false_iff_ne.2 q1, beq_eq_false_iff_ne.2 q2, beq_eq_false_iff_ne.2 q3, beq_eq_false_iff_ne.2 q4, beq_eq_false_iff_ne.2 q5, beq_eq_false_iff_ne.2 q6, beq_eq_false_iff_ne.2 q7, beq_eq_false_iff_ne.2 q8, beq_eq_false_iff_ne.2 q9, beq_eq_false_iff_ne.2 q10, beq_eq_false_iff_ne.2 q11, Bool.or_false]
    have h1 := w_rmark1 s p w hp hs H3 (.inr ⟨H2, g0, g1, g2, g3, g4, g5, g6, g7, g8, g9, g10, g11⟩)
    refine h1.mono (fun e w' h => ⟨?_, h.2⟩)
    rw [h.1]
    unfold rmk rk1
    rw [size_lst, if_neg h3, if_neg (show ¬ (p + 2 ≤ s.size ∧ mk2L.contains ((s.data.toList.drop p).take 2) = true) from fun g => by rw [hno] at g; exact absurd g.2 (by decide)), getD_byte hp]
  · have h1 := w_rmark1 s p w hp hs H3 (.inl (by omega))
    refine h1.mono (fun e w' h => ⟨?_, h.2⟩)
    rw [h.1]
    unfold rmk rk1
    rw [size_lst, if_neg h3, if_neg (show ¬ (p + 2 ≤ s.size ∧ mk2L.contains ((s.data.toList.drop p).take 2) = true) from fun g => h2 g.1), getD_byte hp]
end Go.Proofs.YtohclfgghobldaaGreatDoor
