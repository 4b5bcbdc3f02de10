import Derived.Test.YtdegoefedkidcadDoorC1
namespace Go.Proofs.YtdegoefedkidcadDoor
open Go.RowKit
set_option linter.unusedVariables false
set_option linter.unusedSimpArgs false

set_option maxRecDepth 100000 in
set_option maxHeartbeats 3200000 in
theorem w_UtfCases (s : ByteArray) (w : World) (hs : s.size ≤ 140737488355328) :
    Calls Tryd.prog 6 #[.string s] w fun e w' => e = .returned (.bool true) ∧ Below w.heap.size w w' := by
  have HL := Hid.mk (fun u => w_Lower s u (by omega))
  have HU := Hid.mk (fun u => w_Upper s u (by omega))
  have HLU := Hid.mk (fun u => w_Lower (upp s) u (by rw [upp_size]; omega))
  have HUL := Hid.mk (fun u => w_Upper (low s) u (by rw [low_size]; omega))
  rw [low_upp] at HLU
  rw [upp_low] at HUL
  have HLC : Hid (∀ k (h : k < s.size) (h1 : k < (low s).size), (low s)[k]'h1 = turnB 65 90 (s[k]'h)) := fun k h h1 => low_at s k h1 h
  have HUC : Hid (∀ k (h : k < s.size) (h1 : k < (upp s).size), (upp s)[k]'h1 = turnB 97 122 (s[k]'h)) := fun k h h1 => upp_at s k h1 h
  have z1 := low_size s
  have z2 := upp_size s
  generalize low s = lo at *
  generalize upp s = up at *
  have e1 : (lo.toList == lo.toList) = true := by simp
  have e2 : (up.toList == up.toList) = true := by simp
  have e3 : ((lo.size : Int) != (s.size : Int)) = false := by rw [z1]; simp
  have e4 : ((up.size : Int) != (s.size : Int)) = false := by rw [z2]; simp
  have e5 : (lo.toList != lo.toList) = false := by simp
  have e6 : (up.toList != up.toList) = false := by simp
  have Z := Hid.mk (And.intro z1 z2)
  clear z1 z2
  go_enter Tryd.func6, Tryd.ntmps6
  go_wp2_with fail
  refine (w_fixed _).mono ?_
  rintro e w1 ⟨rfl, hb1⟩
  have HB1 := Hid.mk hb1
  clear hb1
  go_wp2_with fail
  refine (HL.out _).mono ?_
  rintro e w2 ⟨rfl, hb2⟩
  have HB2 := Hid.mk (below_more HB1.out hb2)
  clear hb2
  go_wp2_with fail
  refine (HU.out _).mono ?_
  rintro e w3 ⟨rfl, hb3⟩
  have HB3 := Hid.mk (below_more HB2.out hb3)
  clear hb3
  go_wp2_with fail
  refine (HLU.out _).mono ?_
  rintro e w4 ⟨rfl, hb4⟩
  have HB4 := Hid.mk (below_more HB3.out hb4)
  clear hb4
  go_wp2_with fail
  refine (HUL.out _).mono ?_
  rintro e w5 ⟨rfl, hb5⟩
  have HB5 := Hid.mk (below_more HB4.out hb5)
  clear hb5
  go_wp2_with fail
  go_loopw [5] (fun i wr => ∃ k : Nat, k ≤ s.size ∧ i = .int .i64 k ∧ Hid (Below w.heap.size w wr)) (fun i _ => s.size - (intOf i).toNat)
  case atStart => exact ⟨0, Nat.zero_le _, rfl, HB5⟩
  case round =>
    obtain ⟨k, hk, rfl, HQ⟩ := hrel
    by_cases hlt : k < s.size
    · have hk1 : (k : Int) < (s.size : Int) := by omega
      have hk2 : k < lo.size := by rw [Z.out.1]; exact hlt
      have hk3 : k < up.size := by rw [Z.out.2]; exact hlt
      have hk4 : (k : Int) < (lo.size : Int) := by omega
      have hk5 : (k : Int) < (up.size : Int) := by omega
      have gl := HLC.out k hlt hk2
      have gu := HUC.out k hlt hk3
      have hcs := turn_cases (s[k])
      rw [← gl, ← gu] at hcs
      clear gl gu HLC HUC HL HU HLU HUL
      rcases (show (97 ≤ s[k].toNat ∧ s[k].toNat ≤ 122 ∧ lo[k].toNat = s[k].toNat ∧ up[k].toNat ≠ s[k].toNat) ∨ (65 ≤ s[k].toNat ∧ s[k].toNat ≤ 90 ∧ lo[k].toNat ≠ s[k].toNat ∧ up[k].toNat = s[k].toNat) ∨ (s[k].toNat < 65 ∧ lo[k].toNat = s[k].toNat ∧ up[k].toNat = s[k].toNat) ∨ (90 < s[k].toNat ∧ s[k].toNat < 97 ∧ lo[k].toNat = s[k].toNat ∧ up[k].toNat = s[k].toNat) ∨ (122 < s[k].toNat ∧ lo[k].toNat = s[k].toNat ∧ up[k].toNat = s[k].toNat) by omega) with ⟨h1, h2, h3, h4⟩ | ⟨h1, h2, h3, h4⟩ | ⟨h1, h3, h4⟩ | ⟨h1, h2, h3, h4⟩ | ⟨h1, h3, h4⟩
      · have i1 : (97 : Int) ≤ (((s[k]).toNat : Nat) : Int) := by omega
        have i2 : (((s[k]).toNat : Nat) : Int) ≤ 122 := by omega
        have b1 : ((((lo[k]).toNat : Nat) : Int) != (((up[k]).toNat : Nat) : Int)) = true := by rw [bne_iff_ne]; omega
        have b2 : ((((lo[k]).toNat : Nat) : Int) != (((s[k]).toNat : Nat) : Int)) = false := by rw [bne_eq_false_iff_eq]; omega
        have b3 : ((((up[k]).toNat : Nat) : Int) != (((s[k]).toNat : Nat) : Int)) = true := by rw [bne_iff_ne]; omega
        clear h1 h3 h4
        clear hcs
        go_wp2_with fail
        go_quiet (fail)
        have HQ2 : Hid (Below w.heap.size w (wr.drewN nq)) := ⟨HQ.out.os, HQ.out.tape, HQ.out.output, HQ.out.size, HQ.out.block⟩
        go_wp2_with fail
        go_roundw
        case measure => simp [intOf]; omega
        exact ⟨k + 1, by omega, by go_num, HQ2⟩
      · have i0 : ¬ (97 : Int) ≤ (((s[k]).toNat : Nat) : Int) := by omega
        have i1 : (65 : Int) ≤ (((s[k]).toNat : Nat) : Int) := by omega
        have i2 : (((s[k]).toNat : Nat) : Int) ≤ 90 := by omega
        have b1 : ((((lo[k]).toNat : Nat) : Int) != (((up[k]).toNat : Nat) : Int)) = true := by rw [bne_iff_ne]; omega
        have b2 : ((((lo[k]).toNat : Nat) : Int) != (((s[k]).toNat : Nat) : Int)) = true := by rw [bne_iff_ne]; omega
        have b3 : ((((up[k]).toNat : Nat) : Int) != (((s[k]).toNat : Nat) : Int)) = false := by rw [bne_eq_false_iff_eq]; omega
        clear h1 h3 h4
        clear hcs
        go_wp2_with fail
        go_quiet (fail)
        have HQ2 : Hid (Below w.heap.size w (wr.drewN nq)) := ⟨HQ.out.os, HQ.out.tape, HQ.out.output, HQ.out.size, HQ.out.block⟩
        go_wp2_with fail
        go_roundw
        case measure => simp [intOf]; omega
        exact ⟨k + 1, by omega, by go_num, HQ2⟩
      · have i0 : ¬ (97 : Int) ≤ (((s[k]).toNat : Nat) : Int) := by omega
        have i1 : ¬ (65 : Int) ≤ (((s[k]).toNat : Nat) : Int) := by omega
        have b1 : ((((lo[k]).toNat : Nat) : Int) != (((up[k]).toNat : Nat) : Int)) = false := by rw [bne_eq_false_iff_eq]; omega
        have b2 : ((((lo[k]).toNat : Nat) : Int) != (((s[k]).toNat : Nat) : Int)) = false := by rw [bne_eq_false_iff_eq]; omega
        have b3 : ((((up[k]).toNat : Nat) : Int) != (((s[k]).toNat : Nat) : Int)) = false := by rw [bne_eq_false_iff_eq]; omega
        clear h1 h3 h4
        clear hcs
        go_wp2_with fail
        go_quiet (fail)
        have HQ2 : Hid (Below w.heap.size w (wr.drewN nq)) := ⟨HQ.out.os, HQ.out.tape, HQ.out.output, HQ.out.size, HQ.out.block⟩
        go_wp2_with fail
        go_roundw
        case measure => simp [intOf]; omega
        exact ⟨k + 1, by omega, by go_num, HQ2⟩
      · have i0 : ¬ (97 : Int) ≤ (((s[k]).toNat : Nat) : Int) := by omega
        have i1 : (65 : Int) ≤ (((s[k]).toNat : Nat) : Int) := by omega
        have i2 : ¬ (((s[k]).toNat : Nat) : Int) ≤ 90 := by omega
        have b1 : ((((lo[k]).toNat : Nat) : Int) != (((up[k]).toNat : Nat) : Int)) = false := by rw [bne_eq_false_iff_eq]; omega
        have b2 : ((((lo[k]).toNat : Nat) : Int) != (((s[k]).toNat : Nat) : Int)) = false := by rw [bne_eq_false_iff_eq]; omega
        have b3 : ((((up[k]).toNat : Nat) : Int) != (((s[k]).toNat : Nat) : Int)) = false := by rw [bne_eq_false_iff_eq]; omega
        clear h1 h3 h4
        clear hcs
        go_wp2_with fail
        go_quiet (fail)
        have HQ2 : Hid (Below w.heap.size w (wr.drewN nq)) := ⟨HQ.out.os, HQ.out.tape, HQ.out.output, HQ.out.size, HQ.out.block⟩
        go_wp2_with fail
        go_roundw
        case measure => simp [intOf]; omega
        exact ⟨k + 1, by omega, by go_num, HQ2⟩
      · have i0 : (97 : Int) ≤ (((s[k]).toNat : Nat) : Int) := by omega
        have i3 : ¬ (((s[k]).toNat : Nat) : Int) ≤ 122 := by omega
        have i1 : (65 : Int) ≤ (((s[k]).toNat : Nat) : Int) := by omega
        have i2 : ¬ (((s[k]).toNat : Nat) : Int) ≤ 90 := by omega
        have b1 : ((((lo[k]).toNat : Nat) : Int) != (((up[k]).toNat : Nat) : Int)) = false := by rw [bne_eq_false_iff_eq]; omega
        have b2 : ((((lo[k]).toNat : Nat) : Int) != (((s[k]).toNat : Nat) : Int)) = false := by rw [bne_eq_false_iff_eq]; omega
        have b3 : ((((up[k]).toNat : Nat) : Int) != (((s[k]).toNat : Nat) : Int)) = false := by rw [bne_eq_false_iff_eq]; omega
        clear h1 h3 h4
        clear hcs
        go_wp2_with fail
        go_quiet (fail)
        have HQ2 : Hid (Below w.heap.size w (wr.drewN nq)) := ⟨HQ.out.os, HQ.out.tape, HQ.out.output, HQ.out.size, HQ.out.block⟩
        go_wp2_with fail
        go_roundw
        case measure => simp [intOf]; omega
        exact ⟨k + 1, by omega, by go_num, HQ2⟩
    · go_wp2_with fail
      go_ret
      exact ⟨rfl, HQ.out⟩
end Go.Proofs.YtdegoefedkidcadDoor
