import Derived.Test.YtbfjpmbninlbbabGreatDoorM7
namespace Go.Proofs.YtbfjpmbninlbbabGreatDoor
open Go.RowKit
set_option linter.unusedVariables false
set_option linter.unusedSimpArgs false

/-- the pieces from one number up to another -/
def cutS (s : ByteArray) (f t : Int) : ByteArray := if t ≤ max f 0 then .empty else s.extract (off s.data.toList (max f 0).toNat) (off s.data.toList t.toNat)

theorem len_toList (s : ByteArray) : s.data.toList.length = s.size := by rw [Array.length_toList]; rfl
theorem off_size (s : ByteArray) (k : Nat) : off s.data.toList k ≤ s.size := by have := off_le k s.data.toList; rw [len_toList] at this; exact this

set_option maxRecDepth 100000 in
set_option maxHeartbeats 1600000 in
theorem w_Cut (s : ByteArray) (f t : Int) (w : World) (hs : s.size ≤ 4611686018427387904) :
    Calls Tryz.prog 11 #[.string s, .int .i64 f, .int .i64 t] w fun e w' => e = .returned (.string (cutS s f t)) ∧ Below w.heap.size w w' := by
  by_cases hft : t ≤ max f 0
  · have HC : Hid (cutS s f t = .empty) := by show _ = _; unfold cutS; rw [if_pos hft]
    go_enter Tryz.func11, Tryz.ntmps11
    go_wp2_with fail
    go_ret
    exact ⟨by rw [HC.out]; rfl, Below.refl _ _⟩
  · have HC : Hid (cutS s f t = s.extract (off s.data.toList (max f 0).toNat) (off s.data.toList t.toNat)) := by show _ = _; unfold cutS; rw [if_neg hft]
    have h0 : 0 ≤ max f 0 := by omega
    obtain ⟨F, hF⟩ : ∃ F : Nat, max f 0 = (F : Int) := ⟨(max f 0).toNat, by omega⟩
    obtain ⟨T, hT⟩ : ∃ T : Nat, t = (T : Int) := ⟨t.toNat, by omega⟩
    subst hT
    rw [hF, Int.toNat_natCast, Int.toNat_natCast] at HC
    have hFT : F < T := by omega
    have hn : ¬ (T : Int) ≤ (F : Int) := by omega
    clear hft h0
    go_enter Tryz.func11, Tryz.ntmps11
    go_wp2_with fail
    go_loopw [7, 8, 9] (fun vb vn vi wr => ∃ (pos k b : Nat), wr = w.iter s pos ∧ pos ≤ s.size ∧ vb = .int .i64 (b : Int) ∧ vn = .int .i64 (k : Int) ∧ k ≤ pos ∧ k ≤ T ∧ b ≤ s.size ∧ Hid (pos = off s.data.toList k ∧ b = if F < k then off s.data.toList F else s.size)) (fun _ _ _ wr => s.size - wr.iterPos w.heap.size)
    case atStart => exact ⟨0, 0, s.size, rfl, Nat.zero_le _, rfl, rfl, Nat.le_refl _, Nat.zero_le _, Nat.le_refl _, rfl, by rw [if_neg (by omega)]⟩
    case round =>
      obtain ⟨pos, k, b, rfl, hpos, rfl, rfl, hk, hkT, hb, HR⟩ := hrel
      by_cases hp : pos < s.size
      · have hnx : ∀ ty, _ := fun ty => nxt2 w s pos ty hp
        have H1 := Hid.mk (decL_pos (s.data.toList.drop pos))
        have H2 := Hid.mk (step_le hp)
        have H3 : Hid (pos + (decL (s.data.toList.drop pos)).2 = off s.data.toList (k + 1)) := by
          show _ = _
          rw [off_step _ _ (by rw [← HR.out.1]; exact drop_ne hp), ← HR.out.1]
        generalize decL (s.data.toList.drop pos) = d at *
        by_cases hkF : k = F
        · have q1 : ((k : Int) == (F : Int)) = true := by rw [beq_iff_eq]; omega
          have q2 : ((k : Int) == (T : Int)) = false := by rw [beq_eq_false_iff_ne]; omega
          go_wp2_with fail
          go_roundw
          case rel =>
            refine ⟨pos + d.2, k + 1, pos, rfl, H2.out, rfl, by go_num, by have := H1.out; omega, by omega, hpos, H3.out, ?_⟩
            rw [if_pos (by omega), ← hkF]; exact HR.out.1
          case measure =>
            have := H1.out
            have := H2.out
            simp
            omega
        · have q1 : ((k : Int) == (F : Int)) = false := by rw [beq_eq_false_iff_ne]; omega
          by_cases hkT2 : k = T
          · have q2 : ((k : Int) == (T : Int)) = true := by rw [beq_iff_eq]; omega
            have e1 : b = off s.data.toList F := by rw [HR.out.2, if_pos (by omega)]
            have e2 : pos = off s.data.toList T := by rw [HR.out.1, hkT2]
            have hbp : b ≤ pos := by rw [e1, e2]; exact off_mono _ (by omega)
            have hbp2 : (b : Int) ≤ (pos : Int) := by omega
            have hps2 : (pos : Int) ≤ (s.size : Int) := by omega
            rw [← e1, ← e2] at HC
            clear e1 e2 HR H1 H3 hkT2
            go_wp2_with fail
            go_ret
            exact ⟨by rw [HC.out]; rfl, iter_below w s _⟩
          · have q2 : ((k : Int) == (T : Int)) = false := by rw [beq_eq_false_iff_ne]; omega
            go_wp2_with fail
            go_roundw
            case rel =>
              refine ⟨pos + d.2, k + 1, b, rfl, H2.out, rfl, by go_num, by have := H1.out; omega, by omega, hb, H3.out, ?_⟩
              rw [HR.out.2]
              by_cases hc : F < k
              · rw [if_pos hc, if_pos (by omega)]
              · rw [if_neg hc, if_neg (by omega)]
            case measure =>
              have := H1.out
              have := H2.out
              simp
              omega
      · have hnx := fun ty => run_next_end (P := Tryz.prog) w s pos ty hp
        have e0 : pos = s.size := by omega
        have e2 : off s.data.toList T = s.size := by
          have a := off_mono s.data.toList hkT
          have b := off_size s T
          rw [← HR.out.1] at a
          omega
        have e1 : b = off s.data.toList F := by
          rw [HR.out.2]
          by_cases hc : F < k
          · rw [if_pos hc]
          · rw [if_neg hc]
            have a := off_mono s.data.toList (Nat.le_of_not_lt hc)
            have b := off_size s F
            rw [← HR.out.1] at a
            omega
        have hbp2 : (b : Int) ≤ (s.size : Int) := by omega
        rw [← e1, e2] at HC
        clear e1 e2 HR e0
        go_wp2_with fail
        go_ret
        exact ⟨by rw [HC.out]; rfl, iter_below w s _⟩
end Go.Proofs.YtbfjpmbninlbbabGreatDoor
