import Derived.Test.YtohclfgghobldaaGreatDoorM27
namespace Go.Proofs.YtohclfgghobldaaGreatDoor
open Go.RowKit
set_option linter.unusedVariables false
set_option linter.unusedSimpArgs false

set_option maxRecDepth 100000 in
set_option maxHeartbeats 1600000 in
theorem w_rDigit (c : UInt8) (w : World) :
    Calls Tryz.prog 42 #[.int .u8 ((c.toNat : Nat) : Int)] w fun e w' => e = .returned (.bool (dgB c)) ∧ w' = w := by
  have ht : ∀ b, dgB c = b → dgB c = b := fun _ h => h
  unfold dgB at ht
  have hlt := c.toNat_lt
  obtain ⟨x, hx⟩ : ∃ x : Int, ((c.toNat : Nat) : Int) = x := ⟨_, rfl⟩
  rw [hx]
  have hcs : (48 ≤ x ∧ x ≤ 57) ∨ (48 ≤ x ∧ ¬ x ≤ 57) ∨ (¬ 48 ≤ x ∧ x ≤ 57) := by omega
  rcases hcs with ⟨q0, q1⟩ | ⟨q0, q1⟩ | ⟨q0, q1⟩
  · have HT : dgB c = true := by unfold dgB; exact decide_eq_true (by omega)
    rw [HT]
    clear HT ht hx hlt
    go_enter Tryz.func42, Tryz.ntmps42
    go_wp2_with fail
    go_ret
    exact ⟨by first | rfl | simp [*], rfl⟩
  · have HT : dgB c = false := by unfold dgB; exact decide_eq_false (by omega)
    rw [HT]
    clear HT ht hx hlt
    go_enter Tryz.func42, Tryz.ntmps42
    go_wp2_with fail
    go_ret
    exact ⟨by first | rfl | simp [*], rfl⟩
  · have HT : dgB c = false := by unfold dgB; exact decide_eq_false (by omega)
    rw [HT]
    clear HT ht hx hlt
    go_enter Tryz.func42, Tryz.ntmps42
    go_wp2_with fail
    go_ret
    exact ⟨by first | rfl | simp [*], rfl⟩

set_option maxRecDepth 100000 in
set_option maxHeartbeats 1600000 in
theorem w_rLetter (c : UInt8) (w : World) :
    Calls Tryz.prog 39 #[.int .u8 ((c.toNat : Nat) : Int)] w fun e w' => e = .returned (.bool (leB c)) ∧ w' = w := by
  have ht : ∀ b, leB c = b → leB c = b := fun _ h => h
  unfold leB at ht
  have hlt := c.toNat_lt
  obtain ⟨x, hx⟩ : ∃ x : Int, ((c.toNat : Nat) : Int) = x := ⟨_, rfl⟩
  rw [hx]
  have hcs : (97 ≤ x ∧ x ≤ 122) ∨ (97 ≤ x ∧ ¬ x ≤ 122 ∧ 65 ≤ x ∧ ¬ x ≤ 90 ∧ ¬ x = 95) ∨ (¬ 97 ≤ x ∧ 65 ≤ x ∧ x ≤ 90) ∨ (¬ 97 ≤ x ∧ 65 ≤ x ∧ ¬ x ≤ 90 ∧ x = 95) ∨ (¬ 97 ≤ x ∧ 65 ≤ x ∧ ¬ x ≤ 90 ∧ ¬ x = 95) ∨ (¬ 97 ≤ x ∧ ¬ 65 ≤ x ∧ ¬ x = 95) := by omega
  rcases hcs with ⟨q0, q1⟩ | ⟨q0, q1, q2, q3, q4⟩ | ⟨q0, q1, q2⟩ | ⟨q0, q1, q2, q3⟩ | ⟨q0, q1, q2, q3⟩ | ⟨q0, q1, q2⟩
  · have HT : leB c = true := by unfold leB; exact decide_eq_true (by omega)
    rw [HT]
    clear HT ht hx hlt
    go_enter Tryz.func39, Tryz.ntmps39
    go_wp2_with fail
    go_ret
    exact ⟨by first | rfl | simp [*], rfl⟩
  · have HT : leB c = false := by unfold leB; exact decide_eq_false (by omega)
    rw [HT]
    clear HT ht hx hlt
    go_enter Tryz.func39, Tryz.ntmps39
    go_wp2_with fail
    go_ret
    exact ⟨by first | rfl | simp [*], rfl⟩
  · have HT : leB c = true := by unfold leB; exact decide_eq_true (by omega)
    rw [HT]
    clear HT ht hx hlt
    go_enter Tryz.func39, Tryz.ntmps39
    go_wp2_with fail
    go_ret
    exact ⟨by first | rfl | simp [*], rfl⟩
  · have HT : leB c = true := by unfold leB; exact decide_eq_true (by omega)
    rw [HT]
    subst q3
    clear HT ht hx hlt q0 q1 q2
    go_enter Tryz.func39, Tryz.ntmps39
    go_wp2_with fail
    go_ret
    exact ⟨by first | rfl | simp [*], rfl⟩
  · have HT : leB c = false := by unfold leB; exact decide_eq_false (by omega)
    rw [HT]
    clear HT ht hx hlt
    go_enter Tryz.func39, Tryz.ntmps39
    go_wp2_with fail
    go_ret
    exact ⟨by first | rfl | simp [*], rfl⟩
  · have HT : leB c = false := by unfold leB; exact decide_eq_false (by omega)
    rw [HT]
    clear HT ht hx hlt
    go_enter Tryz.func39, Tryz.ntmps39
    go_wp2_with fail
    go_ret
    exact ⟨by first | rfl | simp [*], rfl⟩

theorem cut_all {l : List UInt8} {k : Nat} (hk : k ≤ l.length) : (cut l 0 k = l) ↔ k = l.length := by
  unfold cut
  rw [List.drop_zero, Nat.sub_zero]
  constructor
  · intro h
    have := congrArg List.length h
    rw [List.length_take] at this
    omega
  · intro h; rw [h]; exact List.take_length
theorem namedB_of {l : List UInt8} (h0 : l ≠ []) (h1 : leB (l.getD 0 0) = true) : namedB l = decide (bhP inB l 0 = l.length) := by
  have hp : 0 < l.length := List.length_pos_iff.2 h0
  unfold namedB nameW
  rw [if_pos ⟨hp, h1⟩]
  have := cut_all (l := l) (k := bhP inB l 0) (bhP_ge inB (by omega)).2
  by_cases h : bhP inB l 0 = l.length
  · rw [decide_eq_true h, decide_eq_true ⟨h0, this.2 h⟩]
  · rw [decide_eq_false h, decide_eq_false (fun g => h (this.1 g.2))]
theorem namedB_not {l : List UInt8} (h1 : ¬ leB (l.getD 0 0) = true) : namedB l = false := by
  unfold namedB nameW
  rw [if_neg (fun g => h1 g.2)]
  exact decide_eq_false (fun g => g.1 g.2.symm)
end Go.Proofs.YtohclfgghobldaaGreatDoor
namespace Go.Proofs.YtohclfgghobldaaGreatDoor
open Go.RowKit Go.Shelf
set_option linter.unusedVariables false
set_option linter.unusedSimpArgs false

theorem id_blank {l : List UInt8} {p : Nat} (hp : p < l.length) (h : blB (l.getD p 0) = true) : idW l p = idW l (p + 1) := by unfold idW; rw [bhP_step hp h]
theorem id_rem {l : List UInt8} {p : Nat} (hp : p < l.length) (h : (l.getD p 0).toNat = 35) : idW l p = idW l (bhP rmB l p) := by
  unfold idW
  rw [bhP_stop hp (by unfold blB; rw [h]; decide), idF_remark ⟨hp, h⟩]
theorem id_stop {l : List UInt8} {p : Nat} (hp : p < l.length) (h : blB (l.getD p 0) = false) (h2 : (l.getD p 0).toNat ≠ 35) : idW l p = p := by
  unfold idW
  rw [bhP_stop hp h, idF_rest (fun g => h2 g.2)]
theorem id_end (l : List UInt8) : idW l l.length = l.length := by
  have := idW_ge (l := l) (p := l.length) (Nat.le_refl _)
  omega

set_option maxRecDepth 100000 in
set_option maxHeartbeats 3200000 in
theorem w_ridle (s : ByteArray) (p : Nat) (w : World) (hp : p ≤ s.size) (hs : s.size ≤ 140737488355328) :
    Calls Tryz.prog 10 #[.string s, .int .i64 (p : Int)] w fun e w' => e = .returned (.int .i64 ((idW s.data.toList p : Nat) : Int)) ∧ w' = w := by
  obtain ⟨l, hl⟩ : ∃ l, l = s.data.toList := ⟨_, rfl⟩
  have HL : Hid (l.length = s.size) := by show _ = _; rw [hl]; exact size_lst s
  have HG : Hid (∀ q (h : q < s.size), l.getD q 0 = s[q]) := fun q h => by rw [hl]; exact getD_byte h
  rw [← hl]
  clear hl
  go_enter Tryz.func10, Tryz.ntmps10
  go_wp2_with fail
  go_loopw [1] (fun a wr => ∃ q : Nat, q ≤ s.size ∧ a = .int .i64 (q : Int) ∧ Hid (idW l p = idW l q) ∧ wr = w) (fun a _ => s.size - (intOf a).toNat)
  case atStart => exact ⟨p, hp, rfl, rfl, rfl⟩
  case round =>
    obtain ⟨q, hq, rfl, HQ, hww⟩ := hrel
    obtain rfl := hww.symm
    by_cases hlt : q < s.size
    · have hi1 : (q : Int) < (s.size : Int) := by omega
      have hi0 : (0 : Int) ≤ (q : Int) := by omega
      have hql : q < l.length := by rw [HL.out]; exact hlt
      have hb := id_blank hql
      have hr := id_rem hql
      have hsp := id_stop hql
      rw [HG.out q hlt] at hb hr hsp
      have HB := Hid.mk hb
      have HR := Hid.mk hr
      have HSP := Hid.mk hsp
      clear hb hr hsp
      by_cases h32 : s[q].toNat = 32
      · have HST := Hid.mk (HQ.out.trans (HB.out (by unfold blB; rw [h32]; decide)))
        have hci : ((s[q].toNat : Nat) : Int) = 32 := by omega
        clear h32
        go_wp2_with fail
        go_roundw
        case rel => exact ⟨q + 1, by omega, by go_num, HST, by first | rfl | trivial⟩
        case measure => simp [intOf]; omega
      have i32 : ¬ ((s[q].toNat : Nat) : Int) = 32 := by omega
      by_cases h9 : s[q].toNat = 9
      · have HST := Hid.mk (HQ.out.trans (HB.out (by unfold blB; rw [h9]; decide)))
        have hci : ((s[q].toNat : Nat) : Int) = 9 := by omega
        clear h9
        go_wp2_with fail
        go_roundw
        case rel => exact ⟨q + 1, by omega, by go_num, HST, by first | rfl | trivial⟩
        case measure => simp [intOf]; omega
      have i9 : ¬ ((s[q].toNat : Nat) : Int) = 9 := by omega
      by_cases h10 : s[q].toNat = 10
      · have HST := Hid.mk (HQ.out.trans (HB.out (by unfold blB; rw [h10]; decide)))
        have hci : ((s[q].toNat : Nat) : Int) = 10 := by omega
        clear h10
        go_wp2_with fail
        go_roundw
        case rel => exact ⟨q + 1, by omega, by go_num, HST, by first | rfl | trivial⟩
        case measure => simp [intOf]; omega
      have i10 : ¬ ((s[q].toNat : Nat) : Int) = 10 := by omega
      by_cases h13 : s[q].toNat = 13
      · have HST := Hid.mk (HQ.out.trans (HB.out (by unfold blB; rw [h13]; decide)))
        have hci : ((s[q].toNat : Nat) : Int) = 13 := by omega
        clear h13
        go_wp2_with fail
        go_roundw
        case rel => exact ⟨q + 1, by omega, by go_num, HST, by first | rfl | trivial⟩
        case measure => simp [intOf]; omega
      have i13 : ¬ ((s[q].toNat : Nat) : Int) = 13 := by omega
      by_cases h35 : s[q].toNat = 35
      · have HST := Hid.mk (HQ.out.trans (HR.out h35))
        have hgt : q < bhP rmB l q := bhP_gt hql (by rw [HG.out q hlt]; unfold rmB; rw [h35]; decide)
        have hge := bhP_ge rmB (l := l) (p := q) (by omega)
        rw [HL.out] at hge
        obtain ⟨r, hr⟩ : ∃ r, bhP rmB l q = r := ⟨_, rfl⟩
        have HRq : Hid (bhP rmB l q = r) := hr
        rw [hr] at HST hgt hge
        have hci : ((s[q].toNat : Nat) : Int) = 35 := by omega
        clear hr h35 h32 h9 h10 h13 i32 i9 i10 i13
        go_wp2_with fail
        go_loopw [1] (fun a wr => ∃ z : Nat, q ≤ z ∧ z ≤ r ∧ a = .int .i64 (z : Int) ∧ Hid (bhP rmB l z = r) ∧ wr = w) (fun a _ => s.size - (intOf a).toNat)
        case atStart => exact ⟨q, Nat.le_refl _, by omega, rfl, HRq, rfl⟩
        case round =>
          obtain ⟨z, hqz, hzr, rfl, HZ, hww⟩ := hrel
          obtain rfl := hww.symm
          by_cases hzl : z < s.size
          · have hj1 : (z : Int) < (s.size : Int) := by omega
            have hj0 : (0 : Int) ≤ (z : Int) := by omega
            have hzl2 : z < l.length := by rw [HL.out]; exact hzl
            have hst := bhP_step (P := rmB) (l := l) (p := z) hzl2
            have hsp := bhP_stop (P := rmB) (l := l) (p := z) hzl2
            rw [HG.out z hzl] at hst hsp
            by_cases hn : s[z].toNat = 10
            · have e := hsp (by unfold rmB; rw [hn]; decide)
              have hzr2 : z = r := by rw [← e]; exact HZ.out
              have hni : ((s[z].toNat : Nat) : Int) = 10 := by omega
              clear hst hsp hn e
              subst hzr2
              go_wp2_with fail
              go_roundw
              case rel => exact ⟨z, by omega, by first | rfl | go_num, HST, by first | rfl | trivial⟩
              case measure => simp [intOf]; omega
            · have e := hst (by unfold rmB; exact decide_eq_true hn)
              have HZ2 : Hid (bhP rmB l (z + 1) = r) := by show _ = _; rw [← e]; exact HZ.out
              have hz3 : z + 1 ≤ r := by
                have := bhP_ge rmB (l := l) (p := z + 1) (by omega)
                rw [HZ2.out] at this; exact this.1
              have hni : ¬ ((s[z].toNat : Nat) : Int) = 10 := by omega
              clear hst hsp hn e
              go_wp2_with fail
              go_roundw
              case rel => exact ⟨z + 1, by omega, hz3, by go_num, HZ2, by first | rfl | trivial⟩
              case measure => simp [intOf]; omega
          · have hj1 : ¬ (z : Int) < (s.size : Int) := by omega
            have hzr2 : z = r := by omega
            subst hzr2
            go_wp2_with fail
            go_roundw
            case rel => exact ⟨z, by omega, by first | rfl | go_num, HST, by first | rfl | trivial⟩
            case measure => simp [intOf]; omega
      have HE := Hid.mk (HQ.out.trans (HSP.out (by unfold blB; exact decide_eq_false (by omega)) h35))
      have i35 : ¬ ((s[q].toNat : Nat) : Int) = 35 := by omega
      clear h35 h32 h9 h10 h13
      go_wp2_with fail
      go_ret
      exact ⟨by rw [HE.out]; first | done | rfl, rfl⟩
    · have hi1 : ¬ (q : Int) < (s.size : Int) := by omega
      have HE : Hid (idW l p = q) := by
        show _ = _
        rw [HQ.out, show q = l.length by rw [HL.out]; omega, id_end]
      go_wp2_with fail
      go_ret
      exact ⟨by rw [HE.out]; first | done | rfl, rfl⟩
end Go.Proofs.YtohclfgghobldaaGreatDoor
