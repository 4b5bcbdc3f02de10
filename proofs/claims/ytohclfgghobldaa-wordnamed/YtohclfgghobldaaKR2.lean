import Derived.Test.YtohclfgghobldaaKW5
import Derived.Test.YtohclfgghobldaaKR1
namespace Go.Proofs.Ytohclfgghobldaa
open Go.RowKit
set_option linter.unusedVariables false
set_option linter.unusedSimpArgs false

set_option maxRecDepth 100000 in
set_option maxHeartbeats 1600000 in
theorem w_rDigit (c : UInt8) (w : World) :
    Calls Try.prog 10 #[.int .u8 ((c.toNat : Nat) : Int)] w fun e w' => e = .returned (.bool (dgB c)) ∧ w' = w := by
  have ht : ∀ b, dgB c = b → dgB c = b := fun _ h => h
  unfold dgB at ht
  have hlt := c.toNat_lt
  obtain ⟨x, hx⟩ : ∃ x : Int, ((c.toNat : Nat) : Int) = x := ⟨_, rfl⟩
  rw [hx]
  have hcs : (48 ≤ x ∧ x ≤ 57) ∨ (48 ≤ x ∧ ¬ x ≤ 57) ∨ (¬ 48 ≤ x ∧ x ≤ 57) := by omega
  rcases hcs with ⟨q0, q1⟩ | ⟨q0, q1⟩ | ⟨q0, q1⟩
  · have HT : dgB c = true := by unfold dgB; exact decide_eq_true (by omega)
    rw [HT]
    clear HT ht hx hlt
    go_enter Try.func10, Try.ntmps10
    go_wp2_with fail
    go_ret
    exact ⟨by first | rfl | simp [*], rfl⟩
  · have HT : dgB c = false := by unfold dgB; exact decide_eq_false (by omega)
    rw [HT]
    clear HT ht hx hlt
    go_enter Try.func10, Try.ntmps10
    go_wp2_with fail
    go_ret
    exact ⟨by first | rfl | simp [*], rfl⟩
  · have HT : dgB c = false := by unfold dgB; exact decide_eq_false (by omega)
    rw [HT]
    clear HT ht hx hlt
    go_enter Try.func10, Try.ntmps10
    go_wp2_with fail
    go_ret
    exact ⟨by first | rfl | simp [*], rfl⟩

set_option maxRecDepth 100000 in
set_option maxHeartbeats 1600000 in
theorem w_rLetter (c : UInt8) (w : World) :
    Calls Try.prog 9 #[.int .u8 ((c.toNat : Nat) : Int)] w fun e w' => e = .returned (.bool (leB c)) ∧ w' = w := by
  have ht : ∀ b, leB c = b → leB c = b := fun _ h => h
  unfold leB at ht
  have hlt := c.toNat_lt
  obtain ⟨x, hx⟩ : ∃ x : Int, ((c.toNat : Nat) : Int) = x := ⟨_, rfl⟩
  rw [hx]
  have hcs : (97 ≤ x ∧ x ≤ 122) ∨ (97 ≤ x ∧ ¬ x ≤ 122 ∧ 65 ≤ x ∧ ¬ x ≤ 90 ∧ ¬ x = 95) ∨ (¬ 97 ≤ x ∧ 65 ≤ x ∧ x ≤ 90) ∨ (¬ 97 ≤ x ∧ 65 ≤ x ∧ ¬ x ≤ 90 ∧ x = 95) ∨ (¬ 97 ≤ x ∧ 65 ≤ x ∧ ¬ x ≤ 90 ∧ ¬ x = 95) ∨ (¬ 97 ≤ x ∧ ¬ 65 ≤ x ∧ ¬ x = 95) := by omega
  rcases hcs with ⟨q0, q1⟩ | ⟨q0, q1, q2, q3, q4⟩ | ⟨q0, q1, q2⟩ | ⟨q0, q1, q2, q3⟩ | ⟨q0, q1, q2, q3⟩ | ⟨q0, q1, q2⟩
  · have HT : leB c = true := by unfold leB; exact decide_eq_true (by omega)
    rw [HT]
    clear HT ht hx hlt
    go_enter Try.func9, Try.ntmps9
    go_wp2_with fail
    go_ret
    exact ⟨by first | rfl | simp [*], rfl⟩
  · have HT : leB c = false := by unfold leB; exact decide_eq_false (by omega)
    rw [HT]
    clear HT ht hx hlt
    go_enter Try.func9, Try.ntmps9
    go_wp2_with fail
    go_ret
    exact ⟨by first | rfl | simp [*], rfl⟩
  · have HT : leB c = true := by unfold leB; exact decide_eq_true (by omega)
    rw [HT]
    clear HT ht hx hlt
    go_enter Try.func9, Try.ntmps9
    go_wp2_with fail
    go_ret
    exact ⟨by first | rfl | simp [*], rfl⟩
  · have HT : leB c = true := by unfold leB; exact decide_eq_true (by omega)
    rw [HT]
    subst q3
    clear HT ht hx hlt q0 q1 q2
    go_enter Try.func9, Try.ntmps9
    go_wp2_with fail
    go_ret
    exact ⟨by first | rfl | simp [*], rfl⟩
  · have HT : leB c = false := by unfold leB; exact decide_eq_false (by omega)
    rw [HT]
    clear HT ht hx hlt
    go_enter Try.func9, Try.ntmps9
    go_wp2_with fail
    go_ret
    exact ⟨by first | rfl | simp [*], rfl⟩
  · have HT : leB c = false := by unfold leB; exact decide_eq_false (by omega)
    rw [HT]
    clear HT ht hx hlt
    go_enter Try.func9, Try.ntmps9
    go_wp2_with fail
    go_ret
    exact ⟨by first | rfl | simp [*], rfl⟩

theorem cut_all {l : List UInt8} {k : Nat} (hk : k ≤ l.length) : (cut l 0 k = l) ↔ k = l.length := by
  unfold cut
  rw [List.drop_zero, Nat.sub_zero]
  constructor
  · intro h
    have := congrArg List.length h
    rw [List.length_take] at this
    omega
  · intro h; rw [h]; exact List.take_length
theorem namedB_of {l : List UInt8} (h0 : l ≠ []) (h1 : leB (l.getD 0 0) = true) : namedB l = decide (bhP inB l 0 = l.length) := by
  have hp : 0 < l.length := List.length_pos_iff.2 h0
  unfold namedB nameW
  rw [if_pos ⟨hp, h1⟩]
  have := cut_all (l := l) (k := bhP inB l 0) (bhP_ge inB (by omega)).2
  by_cases h : bhP inB l 0 = l.length
  · rw [decide_eq_true h, decide_eq_true ⟨h0, this.2 h⟩]
  · rw [decide_eq_false h, decide_eq_false (fun g => h (this.1 g.2))]
theorem namedB_not {l : List UInt8} (h1 : ¬ leB (l.getD 0 0) = true) : namedB l = false := by
  unfold namedB nameW
  rw [if_neg (fun g => h1 g.2)]
  exact decide_eq_false (fun g => g.1 g.2.symm)

set_option maxRecDepth 100000 in
set_option maxHeartbeats 1600000 in
theorem w_rNamed (s : ByteArray) (w : World) (hs : s.size ≤ 140737488355328) :
    Calls Try.prog 5 #[.string s] w fun e w' => e = .returned (.bool (namedB s.data.toList)) ∧ w' = w := by
  by_cases h0 : s.size = 0
  · have HF : Hid (namedB s.data.toList = false) := by
      have : s.data.toList = [] := List.length_eq_zero_iff.1 (by rw [size_lst]; exact h0)
      show _ = _
      rw [this]; rfl
    have hq : ((s.size : Int) == 0) = true := by rw [h0]; rfl
    have hz : (s.size : Int) = 0 := by omega
    go_enter Try.func5, Try.ntmps5
    go_wp2_with fail
    go_ret
    exact ⟨by rw [HF.out]; first | done | rfl, rfl⟩
  · have hq : ((s.size : Int) == 0) = false := by rw [beq_eq_false_iff_ne]; omega
    have hz : ¬ (s.size : Int) = 0 := by omega
    have hi : (0 : Int) < (s.size : Int) := by omega
    have hp : 0 < s.size := by omega
    have hc := fun u => w_rLetter s[0] u
    have hd := getD_byte hp
    cases h1 : leB s[0] with
    | false =>
      have HF : Hid (namedB s.data.toList = false) := namedB_not (by rw [hd, h1]; decide)
      rw [h1] at hc
      have HC := Hid.mk hc
      clear hc hd h1
      go_enter Try.func5, Try.ntmps5
      go_wp2_with fail
      refine (HC.out _).mono ?_
      rintro e w1 ⟨rfl, hw1⟩
      obtain rfl := hw1.symm
      go_wp2_with fail
      go_ret
      exact ⟨by rw [HF.out]; first | done | rfl, rfl⟩
    | true =>
      have HF : Hid (namedB s.data.toList = decide (bhP inB s.data.toList 0 = s.data.toList.length)) := namedB_of (fun e => by have := congrArg List.length e; rw [size_lst, List.length_nil] at this; omega) (by rw [hd, h1])
      rw [h1] at hc
      have HC := Hid.mk hc
      have HLe := Hid.mk (fun c u => w_rLetter c u)
      have HDi := Hid.mk (fun c u => w_rDigit c u)
      clear hc hd h1
      obtain ⟨l, hl⟩ : ∃ l, l = s.data.toList := ⟨_, rfl⟩
      have HL : Hid (l.length = s.size) := by show _ = _; rw [hl]; exact size_lst s
      have HG : Hid (∀ q (h : q < s.size), l.getD q 0 = s[q]) := fun q h => by rw [hl]; exact getD_byte h
      rw [← hl] at HF ⊢
      clear hl
      go_enter Try.func5, Try.ntmps5
      go_wp2_with fail
      refine (HC.out _).mono ?_
      rintro e w1 ⟨rfl, hw1⟩
      obtain rfl := hw1.symm
      go_wp2_with fail
      go_loopw [3] (fun a wr => ∃ q : Nat, q ≤ s.size ∧ a = .int .i64 (q : Int) ∧ Hid (bhP inB l 0 = bhP inB l q) ∧ wr = w) (fun a _ => s.size - (intOf a).toNat)
      case atStart => exact ⟨0, Nat.zero_le _, rfl, rfl, rfl⟩
      case round =>
        obtain ⟨q, hqs, rfl, HQ, rfl⟩ := hrel
        by_cases hlt : q < s.size
        · have hi1 : (q : Int) < (s.size : Int) := by omega
          have hi0 : (0 : Int) ≤ (q : Int) := by omega
          have hst := bhP_step (P := inB) (l := l) (p := q) (by rw [HL.out]; exact hlt)
          have hsp := bhP_stop (P := inB) (l := l) (p := q) (by rw [HL.out]; exact hlt)
          rw [HG.out q hlt] at hst hsp
          unfold inB at hst hsp
          have hl1 := fun u => HLe.out s[q] u
          have hl2 := fun u => HDi.out s[q] u
          cases h1 : leB s[q] with
          | true =>
            rw [h1] at hl1 hst
            have HST := Hid.mk (hst rfl)
            have HL1 := Hid.mk hl1
            clear hst hsp hl1 hl2 h1 HC
            go_wp2_with fail
            refine (HL1.out _).mono ?_
            rintro e w1 ⟨rfl, hw1⟩
            obtain rfl := hw1.symm
            go_wp2_with fail
            go_roundw
            case rel => exact ⟨q + 1, by omega, by go_num, HQ.out.trans HST.out, by first | rfl | trivial⟩
            case measure => simp [intOf]; omega
          | false =>
            cases h2 : dgB s[q] with
            | true =>
              rw [h1] at hl1
              rw [h2] at hl2
              rw [h1, h2] at hst
              have HST := Hid.mk (hst rfl)
              have HL1 := Hid.mk hl1
              have HL2 := Hid.mk hl2
              clear hst hsp hl1 hl2 h1 h2 HC
              go_wp2_with fail
              refine (HL1.out _).mono ?_
              rintro e w1 ⟨rfl, hw1⟩
              obtain rfl := hw1.symm
              go_wp2_with fail
              refine (HL2.out _).mono ?_
              rintro e w1 ⟨rfl, hw1⟩
              obtain rfl := hw1.symm
              go_wp2_with fail
              go_roundw
              case rel => exact ⟨q + 1, by omega, by go_num, HQ.out.trans HST.out, by first | rfl | trivial⟩
              case measure => simp [intOf]; omega
            | false =>
              rw [h1] at hl1
              rw [h2] at hl2
              rw [h1, h2] at hsp
              have HE : Hid (namedB l = false) := by
                show _ = _
                rw [HF.out, HQ.out, show bhP inB l q = q from hsp rfl, HL.out]
                exact decide_eq_false (by omega)
              have HL1 := Hid.mk hl1
              have HL2 := Hid.mk hl2
              clear hst hsp hl1 hl2 h1 h2 HC HF
              go_wp2_with fail
              refine (HL1.out _).mono ?_
              rintro e w1 ⟨rfl, hw1⟩
              obtain rfl := hw1.symm
              go_wp2_with fail
              refine (HL2.out _).mono ?_
              rintro e w1 ⟨rfl, hw1⟩
              obtain rfl := hw1.symm
              go_wp2_with fail
              go_ret
              exact ⟨by rw [HE.out]; first | done | rfl, rfl⟩
        · have hi1 : ¬ (q : Int) < (s.size : Int) := by omega
          have HE : Hid (namedB l = true) := by
            show _ = _
            rw [HF.out, HQ.out, show q = l.length by rw [HL.out]; omega, bhP_end]
            exact decide_eq_true rfl
          clear HF HC
          go_wp2_with fail
          go_ret
          exact ⟨by rw [HE.out]; first | done | rfl, rfl⟩

set_option maxRecDepth 100000 in
set_option maxHeartbeats 1600000 in
theorem w_rPlain (s : ByteArray) (w : World) (hs : s.size ≤ 140737488355328) :
    Calls Try.prog 7 #[.string s] w fun e w' => e = .returned (.bool (plainW s.data.toList)) ∧ w' = w := by
  have HN := Hid.mk (fun u => w_rNamed s u hs)
  have HO := Hid.mk (fun u => w_rReserved s u)
  unfold plainW
  cases h1 : namedB s.data.toList with
  | false =>
    rw [h1] at HN
    clear h1
    go_enter Try.func7, Try.ntmps7
    go_wp2_with fail
    refine (HN.out _).mono ?_
    rintro e w1 ⟨rfl, hw1⟩
    obtain rfl := hw1.symm
    go_wp2_with fail
    go_ret
    exact ⟨rfl, rfl⟩
  | true =>
    rw [h1] at HN
    clear h1
    generalize ownB s.data.toList = b2 at *
    go_enter Try.func7, Try.ntmps7
    go_wp2_with fail
    refine (HN.out _).mono ?_
    rintro e w1 ⟨rfl, hw1⟩
    obtain rfl := hw1.symm
    go_wp2_with fail
    refine (HO.out _).mono ?_
    rintro e w1 ⟨rfl, hw1⟩
    obtain rfl := hw1.symm
    go_wp2_with fail
    go_ret
    exact ⟨by cases b2 <;> rfl, rfl⟩

set_option maxRecDepth 100000 in
set_option maxHeartbeats 1600000 in
theorem w_WordNamed (s : ByteArray) (w : World) (hs : s.size ≤ 140737488355328) :
    Calls Try.prog 3 #[.string s] w fun e w' => e = .returned (.bool true) ∧ Below w.heap.size w w' := by
  have H1 := Hid.mk (fun u => w_Named s u hs)
  have H2 := Hid.mk (fun u => w_rNamed s u hs)
  have H3 := Hid.mk (fun u => w_Plain s u hs)
  have H4 := Hid.mk (fun u => w_rPlain s u hs)
  have H5 := Hid.mk (fun u => w_Plain ⟨#[109, 97, 112]⟩ u (by decide))
  have H6 := Hid.mk (fun u => w_Plain ⟨#[97, 110, 100]⟩ u (by decide))
  rw [show plainW (⟨#[109, 97, 112]⟩ : ByteArray).data.toList = true from by decide] at H5
  rw [show plainW (⟨#[97, 110, 100]⟩ : ByteArray).data.toList = false from by decide] at H6
  generalize namedB s.data.toList = b1 at *
  generalize plainW s.data.toList = b2 at *
  have e1 : (b1 == b1) = true := by simp
  have e2 : (b2 == b2) = true := by simp
  have hmx : Try.prog.follows .mixedOrders = true := by kernel_rfl
  go_enter Try.func3, Try.ntmps3
  go_wp2_with fail
  refine (H1.out _).mono ?_
  rintro e w1 ⟨rfl, hw1⟩
  obtain rfl := hw1.symm
  go_wp2_with fail
  refine (H2.out _).mono ?_
  rintro e w1 ⟨rfl, hw1⟩
  obtain rfl := hw1.symm
  go_wp2_with fail
  refine (H3.out _).mono ?_
  rintro e w1 ⟨rfl, hw1⟩
  obtain rfl := hw1.symm
  go_wp2_with fail
  refine (H4.out _).mono ?_
  rintro e w1 ⟨rfl, hw1⟩
  obtain rfl := hw1.symm
  go_wp2_with fail
  refine (H5.out _).mono ?_
  rintro e w1 ⟨rfl, hw1⟩
  obtain rfl := hw1.symm
  go_wp2_with fail
  refine (H6.out _).mono ?_
  rintro e w1 ⟨rfl, hw1⟩
  obtain rfl := hw1.symm
  go_wp2_with fail
  go_ret
  exact ⟨rfl, Below.refl _ _⟩
end Go.Proofs.Ytohclfgghobldaa
