import Derived.Test.YtgnaeddpdomgkabDoorTen7
namespace Go.Proofs.YtgnaeddpdomgkabDoor
open Go.RowKit
set_option linter.unusedVariables false
set_option linter.unusedSimpArgs false

theorem guess_start (B : Nat) {b1 b0 top w0 : Nat} (hb : 0 < b1) (hw : w0 < B) : top * B + w0 < (top / b1 + 1) * (b1 * B + b0) := by
  have h1 : top < (top / b1 + 1) * b1 := by
    have := Nat.div_add_mod top b1
    have h2 := Nat.mod_lt top hb
    rw [Nat.add_mul, Nat.mul_comm (top / b1)]; omega
  generalize top / b1 + 1 = o at *
  have h2 : (top + 1) * B ≤ (o * b1) * B := Nat.mul_le_mul_right _ h1
  rw [Nat.mul_add, ← Nat.mul_assoc]
  rw [Nat.add_mul] at h2
  omega

theorem guess_less (B : Nat) {b1 b0 top w0 o r : Nat} (h : o * b1 + r = top) (hc : r * B + w0 < o * b0) : (o - 1) * b1 + (r + b1) = top ∧ top * B + w0 < (o - 1 + 1) * (b1 * B + b0) ∧ 0 < o := by
  have ho : 0 < o := by
    rcases Nat.eq_zero_or_pos o with e | e
    · subst e; simp at hc
    · exact e
  obtain ⟨p, rfl⟩ : ∃ p, o = p + 1 := ⟨o - 1, by omega⟩
  refine ⟨?_, ?_, ho⟩
  · rw [Nat.add_sub_cancel, ← h, Nat.add_mul]; omega
  · rw [Nat.add_sub_cancel, ← h, Nat.mul_add, Nat.add_mul ((p + 1) * b1), ← Nat.mul_assoc]; omega

theorem guess_end (B : Nat) {b1 b0 top w0 o r : Nat} (h : o * b1 + r = top) (hc : ¬ r * B + w0 < o * b0) : o * (b1 * B + b0) ≤ top * B + w0 := by
  rw [← h, Nat.mul_add, Nat.add_mul, ← Nat.mul_assoc]; omega

theorem guess_bound {b1 top o r : Nat} (h : o * b1 + r = top) (hb : 250000000 ≤ b1) (ht : top < 1000000000000000000) : o < 4000000000 := by
  rcases Nat.lt_or_ge o 4000000000 with e | e
  · exact e
  · have := Nat.mul_le_mul e hb
    omega

/-- what guess answers -/
def Guessed (q top w0 b1 b0 : Nat) : Prop := q * (b1 * 1000000000 + b0) ≤ top * 1000000000 + w0 ∧ top * 1000000000 + w0 < (q + 1) * (b1 * 1000000000 + b0)

set_option maxHeartbeats 3200000 in
theorem w_guess (vw vb : Value) (ws bs : List Nat) (n : Nat) (w : World) (hw : Nums .u64 w vw ws) (hb : Nums .u64 w vb bs) (hlw : ws.length = n + 1) (hlb : bs.length = n) (hn : 2 ≤ n) (hm : n ≤ 274877906944) (hdw : Pl.dig 1000000000 ws) (hdb : Pl.dig 1000000000 bs) (htop : 250000000 ≤ bs.getD (n - 1) 0) :
    Calls Tryd.prog 51 #[vw, vb] w fun e w' => ∃ q : Nat, e = .returned (.int .u64 (q : Int)) ∧ Below w.heap.size w w' ∧ Guessed q (ws.getD n 0 * 1000000000 + ws.getD (n - 1) 0) (ws.getD (n - 2) 0) (bs.getD (n - 1) 0) (bs.getD (n - 2) 0) := by
  rcases hw.open' with ⟨rfl, _⟩ | ⟨hp, bw, offw, capw, rfl, hcw, hltw, hcellw⟩
  · simp at hlw
  rcases hb.open' with ⟨rfl, _⟩ | ⟨hpb, bb, offb, capb, rfl, hcb, hltb, hcellb⟩
  · simp at hlb; omega
  have k2 := hcellw n (by omega)
  have k1 := hcellw (n - 1) (by omega)
  have k0 := hcellw (n - 2) (by omega)
  have j1 := hcellb (n - 1) (by omega)
  have j0 := hcellb (n - 2) (by omega)
  have m2 := Pl.dig_getD (by decide) hdw n
  have m1 := Pl.dig_getD (by decide) hdw (n - 1)
  have m0 := Pl.dig_getD (by decide) hdw (n - 2)
  have d1 := Pl.dig_getD (by decide) hdb (n - 1)
  have d0 := Pl.dig_getD (by decide) hdb (n - 2)
  rw [hlw, hlb] at *
  clear hcellw hcellb hw hb
  generalize ws.getD n 0 = w2 at *
  generalize ws.getD (n - 1) 0 = w1 at *
  generalize ws.getD (n - 2) 0 = w0 at *
  generalize bs.getD (n - 1) 0 = b1 at *
  generalize bs.getD (n - 2) 0 = b0 at *
  clear hlw hlb hp hpb
  have e1 : (((n : Int)) - 1).toNat = n - 1 := by omega
  have e2 : (((n : Int)) - 2).toNat = n - 2 := by omega
  have hb0 : (((b1 : Nat) : Int) == 0) = false := by simp; omega
  go_enter Tryd.func51, Tryd.ntmps51
  go_wp2
  go_quiet (fail)
  go_wp2
  have ht : w2 * 1000000000 + w1 < 1000000000000000000 := by omega
  have et : (w2 : Int) * 1000000000 + (w1 : Int) = ((w2 * 1000000000 + w1 : Nat) : Int) := by simp
  rw [et]
  generalize hTop : w2 * 1000000000 + w1 = top at *
  have HTop := Hid.mk hTop
  clear et hTop
  go_quiet (fail)
  go_wp2
  go_loopw [7, 8] (fun o r wr => ∃ oo rr : Nat, o = .int .u64 (oo : Int) ∧ r = .int .u64 (rr : Int) ∧ Hid (oo * b1 + rr = top) ∧ rr ≤ 5000000000 ∧ oo < 4000000000 ∧ Below w.heap.size w wr ∧ Hid (top * 1000000000 + w0 < (oo + 1) * (b1 * 1000000000 + b0))) (fun o _ _ => (intOf o).toNat)
  case atStart =>
    have hq : top / b1 * b1 + top % b1 = top := Nat.div_add_mod' top b1
    have hr := Nat.mod_lt top (show 0 < b1 by omega)
    have ho := guess_bound hq htop ht
    refine ⟨top / b1, top % b1, int_eq ?_, int_eq (by simp), hq, by omega, ho, below_drewN (below_drewN (Below.refl _ _) _) _, guess_start _ (by omega) m0⟩
    rw [IntKind.wrap_u64, show (top : Int) / (b1 : Int) = ((top / b1 : Nat) : Int) by simp]
    clear hq
    generalize top / b1 = z at ho ⊢
    omega
  case round =>
    obtain ⟨oo, rr, rfl, rfl, HQ, hrr, hoo, hbw, HG⟩ := hrel
    have k0' := below_cells hbw hltw k0
    have j1' := below_cells hbw hltb j1
    have j0' := below_cells hbw hltb j0
    have hob : oo * b0 ≤ 4000000000 * 1000000000 := Nat.mul_le_mul (by omega) (by omega)
    have hob2 : (oo : Int) * (b0 : Int) ≤ 4000000000000000000 := by
      have : ((oo * b0 : Nat) : Int) ≤ 4000000000000000000 := by omega
      simpa using this
    have hob0 : 0 ≤ (oo : Int) * (b0 : Int) := Int.mul_nonneg (by omega) (by omega)
    clear k0 k1 k2 j1 j0
    by_cases hc : rr * 1000000000 + w0 < oo * b0
    · have hci : (rr : Int) * 1000000000 + (w0 : Int) < (oo : Int) * (b0 : Int) := by
        have : ((rr * 1000000000 + w0 : Nat) : Int) < ((oo * b0 : Nat) : Int) := by omega
        simpa using this
      obtain ⟨g1, g2, g3⟩ := guess_less 1000000000 HQ.out hc
      have G1 := Hid.mk g1
      have G2 := Hid.mk g2
      have hr4 : rr < 4000000000 := by omega
      clear g1 g2 hc hob
      go_wp2
      go_quiet (fail)
      go_wp2
      go_roundw
      case measure => simp [intOf]; omega
      exact ⟨oo - 1, rr + b1, int_eq (by omega), int_eq (by omega), G1, by omega, by omega, below_drewN hbw _, G2⟩
    · have hci : ¬ (rr : Int) * 1000000000 + (w0 : Int) < (oo : Int) * (b0 : Int) := by
        have : ¬ ((rr * 1000000000 + w0 : Nat) : Int) < ((oo * b0 : Nat) : Int) := by omega
        simpa using this
      have G1 := Hid.mk (guess_end 1000000000 HQ.out hc)
      clear hc hob
      go_wp2
      go_quiet (fail)
      go_wp2
      go_ret
      exact ⟨oo, rfl, below_drewN hbw _, by rw [HTop.out]; exact ⟨G1.out, HG.out⟩⟩
end Go.Proofs.YtgnaeddpdomgkabDoor
