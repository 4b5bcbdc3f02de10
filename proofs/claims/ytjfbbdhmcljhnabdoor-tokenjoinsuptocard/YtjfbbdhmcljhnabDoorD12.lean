import Derived.Test.YtjfbbdhmcljhnabDoorD11
namespace Go.Proofs.YtjfbbdhmcljhnabDoor
open Go.RowKit Go.Shelf
set_option linter.unusedVariables false
set_option linter.unusedSimpArgs false

set_option maxRecDepth 100000 in
set_option maxHeartbeats 6400000 in
theorem w_TokenPlaces (s : ByteArray) (w : World) (ss : s.size ≤ 1048576) (hE : ErrIn w) : Calls Tryd.prog 5 #[.string s] w fun e w' => e = .returned (.bool true) ∧ Below w.heap.size w w' := by
  have HE := Hid.mk hE
  have HS := Hid.mk (w_Scan s w (by omega) hE)
  clear hE
  unfold ScanR at HS
  have hsl : Hid (s.data.toList.length = s.size) := size_lst s
  obtain ⟨l, hl⟩ : ∃ l, l = s.data.toList := ⟨_, rfl⟩
  rw [← hl] at HS hsl
  have HL := Hid.mk hl
  clear hl
  go_enter Tryd.func5, Tryd.ntmps5
  go_wp2_with fail
  refine HS.out.mono ?_
  rintro e w1 ⟨⟨hall, so, sc, rfl, HR⟩ | ⟨pre, x, h1, h2, rfl⟩, hb1⟩
  · have HG := Hid.mk (good_all hall)
    obtain ⟨ht1, ht2⟩ := trow_own HR.out
    have HB1 := Hid.mk hb1
    have HT1 := Hid.mk ht1
    clear hall hb1 HS HR ht1
    go_wp2_with fail
    refine (w_lTokenKnown w1 (HE.out.keep HB1.out)).mono ?_
    rintro e w2 ⟨rfl, hb2⟩
    have HB2 := Hid.mk (HB1.out.trans (hb2.mono HB1.out.size))
    have HT2 := Hid.mk (HT1.out.keep hb2)
    clear hb2 HT1 HB1
    have HP0 : Hid (PlS l 0 0) := ⟨[], allY l, rfl, rfl, HG.out⟩
    clear HG
    have HN : Hid (∀ k, k = (allY l).length → k = (allY l).length) := fun _ h => h
    obtain ⟨N, hN⟩ : ∃ N, N = (allY l).length := ⟨_, rfl⟩
    rw [← hN] at ht2 ⊢
    have HNN := Hid.mk hN
    clear hN
    have hN2 : N ≤ 1048576 := by
      have := allY_len l
      rw [HNN.out]; rw [hsl.out] at this; omega
    go_wp2_with fail
    go_loop [6, 7] (fun a i => ∃ p k : Nat, p ≤ s.size ∧ k ≤ N + 1 ∧ a = .int .i64 (p : Int) ∧ i = .int .i64 (k : Int) ∧ Hid (k ≤ N → PlS l k p)) (fun _ i => N + 1 - (intOf i).toNat)
    case atStart => exact ⟨0, 0, Nat.zero_le _, Nat.zero_le _, rfl, rfl, fun _ => HP0.out⟩
    case round =>
      obtain ⟨p, k, hps, hk, rfl, rfl, HQ⟩ := hrel
      by_cases hkN : k ≤ N
      · have hi1 : (k : Int) ≤ (N : Int) := by omega
        have hP := HQ.out hkN
        by_cases hlt : k < N
        · have hk2 : k < (allY l).length := by rw [← HNN.out]; exact hlt
          obtain ⟨q1, q2, q3, q4⟩ := hP.more hk2
          obtain ⟨g, off, rfl, hg, a0, a1, a2, a3⟩ := HT2.out k hk2
          have hb0 := behL_ge (l := l) (p := p) cBl (by rw [hsl.out]; exact hps)
          have HBl : Hid (∀ q (h1 : p ≤ q) (h2 : q < (allY l)[k].at_) (h3 : q < s.size), s[q].toNat = 32 ∨ s[q].toNat = 9 ∨ s[q].toNat = 10 ∨ s[q].toNat = 13) := fun q h1 h2 h3 => by
            have := blank4 (beh_blank h1 (by rw [← q1]; exact h2))
            rwa [HL.out, getD_byte h3] at this
          rw [hsl.out] at q3
          have hpt : p ≤ (allY l)[k].at_ := by rw [q1]; exact hb0.1
          have HQ4 := Hid.mk q4
          clear hP q1 q4 hb0
          generalize (allY l)[k].at_ = ta at *
          generalize (allY l)[k].fin = tf at *
          generalize (allY l)[k].kind = tk at *
          generalize (allY l)[k].text = tx at *
          clear hk2
          have hl1 : (k : Int) < (N : Int) := by omega
          have hl0 : (0 : Int) ≤ (k : Int) := by omega
          have e1 : ¬ (ta : Int) < (p : Int) := by omega
          have e2 : ¬ (s.size : Int) < (ta : Int) := by omega
          have e3 : ¬ (tf : Int) ≤ (ta : Int) := by omega
          have e4 : ¬ (s.size : Int) < (tf : Int) := by omega
          go_wp2_with fail
          go_loop [9] (fun j => ∃ q : Nat, p ≤ q ∧ q ≤ ta ∧ j = .int .i64 (q : Int)) (fun j => ta - (intOf j).toNat)
          case atStart => exact ⟨p, Nat.le_refl _, hpt, rfl⟩
          case round =>
            obtain ⟨q, hq1, hq2, rfl⟩ := hrel
            by_cases hql : q < ta
            · have hqi : (q : Int) < (ta : Int) := by omega
              have hq0 : (0 : Int) ≤ (q : Int) := by omega
              have hqs : q < s.size := by omega
              have hqz : (q : Int) < (s.size : Int) := by omega
              have hbl := HBl.out q hq1 hql hqs
              rcases hbl with hc | hc | hc | hc
              · have k1 : ((s[q].toNat : Nat) : Int) = 32 := by rw [hc]; rfl
                clear hc
                go_wp2_with fail
                all_goals first
                  | exact ⟨⟨q + 1, by omega, by omega, by go_num⟩, by simp [intOf]; omega⟩
                  | (go_round
                     case rel => exact ⟨q + 1, by omega, by omega, by go_num⟩
                     case measure => simp [intOf]; omega)
              · have k1 : ((s[q].toNat : Nat) : Int) = 9 := by rw [hc]; rfl
                clear hc
                go_wp2_with fail
                all_goals first
                  | exact ⟨⟨q + 1, by omega, by omega, by go_num⟩, by simp [intOf]; omega⟩
                  | (go_round
                     case rel => exact ⟨q + 1, by omega, by omega, by go_num⟩
                     case measure => simp [intOf]; omega)
              · have k1 : ((s[q].toNat : Nat) : Int) = 10 := by rw [hc]; rfl
                clear hc
                go_wp2_with fail
                all_goals first
                  | exact ⟨⟨q + 1, by omega, by omega, by go_num⟩, by simp [intOf]; omega⟩
                  | (go_round
                     case rel => exact ⟨q + 1, by omega, by omega, by go_num⟩
                     case measure => simp [intOf]; omega)
              · have k1 : ((s[q].toNat : Nat) : Int) = 13 := by rw [hc]; rfl
                clear hc
                go_wp2_with fail
                all_goals first
                  | exact ⟨⟨q + 1, by omega, by omega, by go_num⟩, by simp [intOf]; omega⟩
                  | (go_round
                     case rel => exact ⟨q + 1, by omega, by omega, by go_num⟩
                     case measure => simp [intOf]; omega)
            · have hql2 : ¬ (q : Int) < (ta : Int) := by omega
              go_wp2_with fail
              go_round
              case rel => exact ⟨tf, k + 1, by omega, by omega, rfl, by go_num, fun _ => HQ4.out⟩
              case measure => simp [intOf]; omega
        · have hkn : k = N := by omega
          have hlast := hP.last (by rw [hkn]; exact HNN.out)
          have HBl : Hid (∀ q (h1 : p ≤ q) (h2 : q < s.size) (h3 : q < s.size), s[q].toNat = 32 ∨ s[q].toNat = 9 ∨ s[q].toNat = 10 ∨ s[q].toNat = 13) := fun q h1 h2 h3 => by
            have := blank4 (beh_blank h1 (by rw [hlast, hsl.out]; exact h2))
            rwa [HL.out, getD_byte h3] at this
          clear hP hlast hkn
          have hl1 : ¬ (k : Int) < (N : Int) := by omega
          have e1 : ¬ (s.size : Int) < (p : Int) := by omega
          have e2 : ¬ (s.size : Int) < (s.size : Int) := by omega
          go_wp2_with fail
          go_loop [9] (fun j => ∃ q : Nat, p ≤ q ∧ q ≤ s.size ∧ j = .int .i64 (q : Int)) (fun j => s.size - (intOf j).toNat)
          case atStart => exact ⟨p, Nat.le_refl _, hps, rfl⟩
          case round =>
            obtain ⟨q, hq1, hq2, rfl⟩ := hrel
            by_cases hql : q < s.size
            · have hqi : (q : Int) < (s.size : Int) := by omega
              have hq0 : (0 : Int) ≤ (q : Int) := by omega
              have hqs : q < s.size := by omega
              have hqz : (q : Int) < (s.size : Int) := by omega
              have hbl := HBl.out q hq1 hql hqs
              rcases hbl with hc | hc | hc | hc
              · have k1 : ((s[q].toNat : Nat) : Int) = 32 := by rw [hc]; rfl
                clear hc
                go_wp2_with fail
                all_goals first
                  | exact ⟨⟨q + 1, by omega, by omega, by go_num⟩, by simp [intOf]; omega⟩
                  | (go_round
                     case rel => exact ⟨q + 1, by omega, by omega, by go_num⟩
                     case measure => simp [intOf]; omega)
              · have k1 : ((s[q].toNat : Nat) : Int) = 9 := by rw [hc]; rfl
                clear hc
                go_wp2_with fail
                all_goals first
                  | exact ⟨⟨q + 1, by omega, by omega, by go_num⟩, by simp [intOf]; omega⟩
                  | (go_round
                     case rel => exact ⟨q + 1, by omega, by omega, by go_num⟩
                     case measure => simp [intOf]; omega)
              · have k1 : ((s[q].toNat : Nat) : Int) = 10 := by rw [hc]; rfl
                clear hc
                go_wp2_with fail
                all_goals first
                  | exact ⟨⟨q + 1, by omega, by omega, by go_num⟩, by simp [intOf]; omega⟩
                  | (go_round
                     case rel => exact ⟨q + 1, by omega, by omega, by go_num⟩
                     case measure => simp [intOf]; omega)
              · have k1 : ((s[q].toNat : Nat) : Int) = 13 := by rw [hc]; rfl
                clear hc
                go_wp2_with fail
                all_goals first
                  | exact ⟨⟨q + 1, by omega, by omega, by go_num⟩, by simp [intOf]; omega⟩
                  | (go_round
                     case rel => exact ⟨q + 1, by omega, by omega, by go_num⟩
                     case measure => simp [intOf]; omega)
            · have hql2 : ¬ (q : Int) < (s.size : Int) := by omega
              go_wp2_with fail
              go_round
              case rel => exact ⟨p, k + 1, by omega, by omega, rfl, by go_num, fun h => by omega⟩
              case measure => simp [intOf]; omega
      · have hi1 : ¬ (k : Int) ≤ (N : Int) := by omega
        go_wp2_with fail
        go_ret
        exact ⟨rfl, HB2.out⟩
  · have HB1 := Hid.mk hb1
    have hne : (((x.err : Nat) : Int) == 0) = false := by rw [beq_eq_false_iff_ne]; omega
    clear h1 h2 hb1 HS
    go_wp2_with fail
    refine (w_lTokenKnown w1 (HE.out.keep HB1.out)).mono ?_
    rintro e w2 ⟨rfl, hb2⟩
    have HB2 := Hid.mk (HB1.out.trans (hb2.mono HB1.out.size))
    clear hb2
    go_wp2_with fail
    go_ret
    exact ⟨rfl, HB2.out⟩
end Go.Proofs.YtjfbbdhmcljhnabDoor
