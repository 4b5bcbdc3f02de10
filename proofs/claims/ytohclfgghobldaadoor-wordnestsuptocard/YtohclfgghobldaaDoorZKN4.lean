import Derived.Test.YtohclfgghobldaaDoorZKN3
import Derived.BigQuiet
namespace Go.Proofs.YtohclfgghobldaaDoor
open Go.RowKit Go.Shelf
set_option linter.unusedVariables false
set_option linter.unusedSimpArgs false

set_option maxRecDepth 100000 in
set_option maxHeartbeats 6400000 in
theorem w_WordNests (s : ByteArray) (w : World) (ss : s.size ≤ 1048576) (hE : ErrIn w) : Calls Tryd.prog 5 #[.string s] w fun e w' => e = .returned (.bool true) ∧ Below w.heap.size w w' := by
  have HE := Hid.mk hE
  have HS : Hid (∀ u, ErrIn u → Calls Tryd.prog 9 #[.string s] u fun e w' => ScR s.data.toList u w' e) := fun u h => w_wScan s u (by omega) h
  clear hE
  have hsl : Hid (s.data.toList.length = s.size) := size_lst s
  obtain ⟨l, hl⟩ : ∃ l, l = s.data.toList := ⟨_, rfl⟩
  rw [← hl] at HS hsl
  clear hl
  unfold ScR at HS
  have hmx : Tryd.prog.follows .mixedOrders = true := by kernel_rfl
  go_enter Tryd.func5, Tryd.ntmps5
  go_wp2_with fail
  refine (w_lWordKnown w HE.out).mono ?_
  rintro e w0 ⟨rfl, hb0⟩
  have HB0 := Hid.mk hb0
  clear hb0
  go_wp2_with fail
  refine (HS.out _ (HE.out.keep HB0.out)).mono ?_
  rintro e w1 ⟨⟨hall, so, sc, rfl, HR⟩ | ⟨pre, x, h1, h2, rfl⟩, hb1⟩
  · have HG := Hid.mk (NsS.start hall)
    obtain ⟨ht1, ht2⟩ := trow_own HR.out
    have HB1 := Hid.mk (HB0.out.trans (hb1.mono HB0.out.size))
    have HT1 := Hid.mk ht1
    clear hall hb1 HS HR ht1
    have hln := scW_len l
    obtain ⟨N, hN⟩ : ∃ N, N = (scW l).length := ⟨_, rfl⟩
    rw [← hN] at ht2 hln ⊢
    rw [hsl.out] at hln
    have HNN := Hid.mk hN
    clear hN
    go_wp2_with fail
    go_loopw [6, 7, 8] (fun o a i wr => ∃ n p k : Nat, o = .int .i64 (n : Int) ∧ a = .int .i64 (p : Int) ∧ i = .int .i64 (k : Int) ∧ k ≤ N ∧ n ≤ k ∧ p ≤ s.size ∧ Hid (NsS l k p n) ∧ Hid (Below w1.heap.size w1 wr)) (fun _ _ i _ => N - (intOf i).toNat)
    case atStart => exact ⟨0, 0, 0, rfl, rfl, rfl, Nat.zero_le _, Nat.le_refl _, Nat.zero_le _, HG, Below.refl _ _⟩
    case round =>
      clear HG
      obtain ⟨n, p, k, rfl, rfl, rfl, hk, hnk, hps, HQ, HBr⟩ := hrel
      by_cases hlt : k < N
      · have hk2 : k < (scW l).length := by rw [← HNN.out]; exact hlt
        obtain ⟨q1, q2, q3, q4, q5⟩ := HQ.out.more hk2
        obtain ⟨g, off, rfl, hg, a0, a1, a2, a3⟩ := (HT1.out.keep HBr.out) k hk2
        rw [hsl.out] at q3
        generalize (scW l)[k].at_ = ta at *
        generalize (scW l)[k].fin = tf at *
        generalize (scW l)[k].kind = tk at *
        generalize (scW l)[k].text = tx at *
        have HQ5 := Hid.mk q5
        clear hk2 q5 HQ
        have hl1 : (k : Int) < (N : Int) := by omega
        have hl0 : (0 : Int) ≤ (k : Int) := by omega
        have f1 : decide ((ta : Int) < (p : Int)) = false := decide_eq_false (by omega)
        have f2 : decide ((tf : Int) ≤ (ta : Int)) = false := decide_eq_false (by omega)
        have f3 : decide ((s.size : Int) < (tf : Int)) = false := decide_eq_false (by omega)
        have f4 : decide (ta < p) = false := decide_eq_false (by omega)
        have f5 : decide (tf ≤ ta) = false := decide_eq_false (by omega)
        have f6 : decide (s.size < tf) = false := decide_eq_false (by omega)
        go_wp2_with fail
        go_quiet (fail)
        obtain ⟨wq, hwq⟩ : ∃ wq, wr.drewN nq = wq := ⟨_, rfl⟩
        have HBq : Hid (Below w1.heap.size w1 wq) := by rw [← hwq]; exact belowN HBr.out nq
        have b0 : wq.cell? ⟨g, off + k * 4, none⟩ = some (.int .i64 (tk : Int)) := by rw [← hwq, cellN]; exact a0
        have b2 : wq.cell? ⟨g, off + k * 4 + 2, none⟩ = some (.int .i64 (tf : Int)) := by rw [← hwq, cellN]; exact a2
        rw [hwq]
        clear hwq a0 a1 a2 a3 HBr f1 f2 f3 f4 f5 f6 hg
        by_cases hc7 : tk = 7
        · have HQ6 : Hid (NsS l (k + 1) tf (n + 1)) := by have := HQ5.out; rw [if_pos hc7] at this; exact this
          have hn2 : n ≤ 1048577 := by omega
          subst hc7
          clear HQ5 q4 q1
          go_wp2_with fail
          go_roundw
          case rel => exact ⟨n + 1, tf, k + 1, by go_num, by first | rfl | go_num, by go_num, by omega, by omega, q3, HQ6, HBq⟩
          case measure => simp [intOf]; omega
        by_cases hc8 : tk = 8
        · have HQ6 : Hid (NsS l (k + 1) tf n) := by have := HQ5.out; rw [if_neg (by omega), if_neg (by omega)] at this; exact this
          have hn0 := q4 (.inl hc8)
          have hn1 : (((n : Nat) : Int) == 0) = false := by rw [beq_eq_false_iff_ne]; omega
          have hn2 : n ≤ 1048577 := by omega
          subst hc8
          clear HQ5 q4 q1
          go_wp2_with fail
          go_roundw
          case rel => exact ⟨n, tf, k + 1, by go_num, by first | rfl | go_num, by go_num, by omega, by omega, q3, HQ6, HBq⟩
          case measure => simp [intOf]; omega
        by_cases hc9 : tk = 9
        · have HQ6 : Hid (NsS l (k + 1) tf (n - 1)) := by have := HQ5.out; rw [if_neg (by omega), if_pos hc9] at this; exact this
          have hn0 := q4 (.inr hc9)
          have hn1 : (((n : Nat) : Int) == 0) = false := by rw [beq_eq_false_iff_ne]; omega
          have hn2 : n ≤ 1048577 := by omega
          subst hc9
          clear HQ5 q4 q1
          go_wp2_with fail
          go_roundw
          case rel => exact ⟨n - 1, tf, k + 1, by go_num, by first | rfl | go_num, by go_num, by omega, by omega, q3, HQ6, HBq⟩
          case measure => simp [intOf]; omega
        have HQ6 : Hid (NsS l (k + 1) tf n) := by have := HQ5.out; rw [if_neg hc7, if_neg hc9] at this; exact this
        have e7 : (((tk : Nat) : Int) == 7) = false := by rw [beq_eq_false_iff_ne]; omega
        have d7 : ¬ ((tk : Nat) : Int) = 7 := by omega
        have e8 : (((tk : Nat) : Int) == 8) = false := by rw [beq_eq_false_iff_ne]; omega
        have d8 : ¬ ((tk : Nat) : Int) = 8 := by omega
        have e9 : (((tk : Nat) : Int) == 9) = false := by rw [beq_eq_false_iff_ne]; omega
        have d9 : ¬ ((tk : Nat) : Int) = 9 := by omega
        clear HQ5 q4 q1 hc7 hc8 hc9
        go_wp2_with fail
        go_roundw
        case rel => exact ⟨n, tf, k + 1, by go_num, by first | rfl | go_num, by go_num, by omega, by omega, q3, HQ6, HBq⟩
        case measure => simp [intOf]; omega
      · have hl1 : ¬ (k : Int) < (N : Int) := by omega
        have hn0 := HQ.out.last (by rw [← HNN.out]; omega)
        subst hn0
        have HBF := Hid.mk (HB1.out.trans (HBr.out.mono HB1.out.size))
        go_wp2_with fail
        go_ret
        exact ⟨rfl, HBF.out⟩
  · have HB1 := Hid.mk (HB0.out.trans (hb1.mono HB0.out.size))
    obtain ⟨kd, pa, fi, tx, er⟩ := x
    dsimp only at h2
    have he : (((er : Nat) : Int) == 0) = false := by rw [beq_eq_false_iff_ne]; omega
    have he2 : ¬ ((er : Nat) : Int) = 0 := by omega
    clear h1 hb1
    go_wp2_with fail
    go_ret
    exact ⟨rfl, HB1.out⟩
end Go.Proofs.YtohclfgghobldaaDoor
