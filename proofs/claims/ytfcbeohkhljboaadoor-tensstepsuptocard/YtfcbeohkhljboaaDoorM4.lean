import Derived.Test.YtfcbeohkhljboaaDoorM1
import Derived.Test.YtfcbeohkhljboaaDoorM3
namespace Go.Proofs.YtfcbeohkhljboaaDoor
open Go.RowKit
set_option linter.unusedVariables false
set_option linter.unusedSimpArgs false

set_option maxHeartbeats 800000 in
theorem w_size_eq (va vb : Value) (xs ys : List Nat) (w : World) (ha : Nums .i64 w va xs) (hb : Nums .i64 w vb ys) (hl : xs.length = ys.length) (hm : xs.length ≤ maxLen) (B : Nat) (hx : Pl.dig B xs) (hy : Pl.dig B ys) :
    Calls Tryd.prog 51 #[va, vb] w fun e w' => e = .returned (.int .i64 (Pl.cmpI (Pl.val B xs) (Pl.val B ys))) ∧ Below w.heap.size w w' := by
  unfold maxLen at hm
  rcases ha.open' with ⟨rfl, ao, cap, rfl, hblk⟩ | ⟨hp, b, off, cap, rfl, hc, hlt, hcell⟩
  · have : ys = [] := List.eq_nil_of_length_eq_zero (by simpa using hl.symm)
    subst this
    rcases hb.open' with ⟨_, ao2, cap2, rfl, hblk2⟩ | ⟨hp, _⟩
    · go_enter Tryd.func51, Tryd.ntmps51
      go_wp2
      refine wp_loop_rounds 1 ?_
      rw [rounds_succ]
      go_wp2
      go_ret
      exact ⟨rfl, Below.refl _ _⟩
    · simp at hp
  · rcases hb.open' with ⟨rfl, _⟩ | ⟨hp2, b2, off2, cap2, rfl, hc2, hlt2, hcell2⟩
    · simp at hl; rw [hl] at hp; simp at hp
    · generalize hn : xs.length = n at *
      have HN := Hid.mk hn
      rw [← hl]
      clear hn
      have HL := Hid.mk hl
      clear hl
      have hne : (((n : Nat) : Int) != ((n : Nat) : Int)) = false := by simp
      go_enter Tryd.func51, Tryd.ntmps51
      go_wp2
      go_loopw [5] (fun i wr => ∃ k : Nat, k ≤ n ∧ i = .int .i64 ((k : Int) - 1) ∧ Below w.heap.size w wr ∧ Hid (∀ j, k ≤ j → xs.getD j 0 = ys.getD j 0)) (fun i _ => (intOf i + 1).toNat)
      case atStart => exact ⟨n, Nat.le_refl _, rfl, Below.refl _ _, Pl.above HN.out (HN.out.trans HL.out)⟩
      case round =>
        obtain ⟨k, hk, rfl, hbw, HA⟩ := hrel
        cases k with
        | zero =>
          have HX : Hid (Pl.cmpI (Pl.val B xs) (Pl.val B ys) = 0) := Pl.cmp_same (HN.out.trans HL.out) HA.out
          rw [show ((0 : Nat) : Int) - 1 = -1 from rfl]
          go_wp2
          go_ret
          exact ⟨by rw [HX.out]; rfl, hbw⟩
        | succ m =>
          have e1 : ((m + 1 : Nat) : Int) - 1 = (m : Int) := by omega
          rw [e1]
          clear e1
          have cx : wr.cell? ⟨b, off + m, none⟩ = some (.int .i64 ((xs.getD m 0 : Nat) : Int)) := (hbw.cell (p := ⟨b, off + m, none⟩) hlt).trans (hcell m (by omega))
          have cy : wr.cell? ⟨b2, off2 + m, none⟩ = some (.int .i64 ((ys.getD m 0 : Nat) : Int)) := (hbw.cell (p := ⟨b2, off2 + m, none⟩) hlt2).trans (hcell2 m (by have := HL.out; omega))
          have hm1 : (m : Int) < (n : Int) := by omega
          obtain ⟨x, hxx⟩ : ∃ x, x = xs.getD m 0 := ⟨_, rfl⟩
          obtain ⟨y, hyy⟩ : ∃ y, y = ys.getD m 0 := ⟨_, rfl⟩
          rw [← hxx] at cx
          rw [← hyy] at cy
          have HXX := Hid.mk hxx
          have HYY := Hid.mk hyy
          clear hxx hyy hcell hcell2
          rcases (show x < y ∨ y < x ∨ x = y by omega) with h | h | h
          · have HX : Hid (Pl.cmpI (Pl.val B xs) (Pl.val B ys) = -1) := Pl.cmp_less (Pl.val_lt_at m (HN.out.trans HL.out) (by have := HN.out; omega) hx (by rw [← HXX.out, ← HYY.out]; exact h) (fun j hj => HA.out j hj))
            go_wp2
            go_quiet (fail)
            go_wp2
            go_ret
            exact ⟨by rw [HX.out]; rfl, below_drewN hbw _⟩
          · have HX : Hid (Pl.cmpI (Pl.val B xs) (Pl.val B ys) = 1) := Pl.cmp_more (Pl.val_lt_at m (HL.out.symm.trans HN.out.symm) (by have := HL.out; omega) hy (by rw [← HXX.out, ← HYY.out]; exact h) (fun j hj => (HA.out j hj).symm))
            have h' : ¬ x < y := by omega
            go_wp2
            go_quiet (fail)
            go_wp2
            go_quiet (fail)
            go_wp2
            go_ret
            exact ⟨by rw [HX.out]; rfl, below_drewN (below_drewN hbw _) _⟩
          · have HE : Hid (∀ j, m ≤ j → xs.getD j 0 = ys.getD j 0) := by
              intro j hj
              by_cases e : j = m
              · subst e; rw [← HXX.out, ← HYY.out]; exact h
              · exact HA.out j (by omega)
            have h' : ¬ x < y := by omega
            have h'' : ¬ y < x := by omega
            clear h
            go_wp2
            go_quiet (fail)
            go_wp2
            go_quiet (fail)
            go_wp2
            go_roundw
            case rel => exact ⟨m, by omega, rfl, below_drewN hbw _, HE⟩
            case measure => simp [intOf]
end Go.Proofs.YtfcbeohkhljboaaDoor
