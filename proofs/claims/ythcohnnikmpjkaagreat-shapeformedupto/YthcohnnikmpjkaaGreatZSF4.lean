import Derived.Test.YthcohnnikmpjkaaGreatZSF2
import Derived.Test.YthcohnnikmpjkaaGreatZSF3
namespace Go.Proofs.YthcohnnikmpjkaaGreat
open Go.RowKit Go.Shelf Go.Sort
set_option linter.unusedVariables false
set_option linter.unusedSimpArgs false
attribute [local go_sem] Oper.semAt_some

section
variable (b0 b1 b2 b3 : Bool) (no : Option Addr) (nn nc : Nat) (b5 : Bool) (xo : Option Addr) (nx xc : Nat) (ao : Option Addr) (NA ac : Nat) (oo : Option Addr) (NO oc : Nat) (w : World) (B : Nat)

set_option maxRecDepth 100000 in
set_option maxHeartbeats 1600000 in
theorem w_allAlone (hx : AskBx w B b0 b1 b2 b3 no nn nc b5 xo nx xc ao NA ac oo NO oc) (z1 : nn ≤ 140737488355328) (z2 : nx ≤ 140737488355328) (z3 : NA ≤ 140737488355328) (z4 : NO ≤ 140737488355328) :
    Calls Tryz.prog 26 #[.pointer (some ⟨B, 0, none⟩)] w fun e w' => e = .returned (.bool (!b0 || bareT b1 b2 b3 b5 nn nx NA NO)) ∧ Below w.heap.size w w' := by
  have HX := Hid.mk hx
  obtain ⟨q0, q1, q2, q3, q4, q5, q6, q7, q8⟩ := hx.nine
  simp only [Nat.zero_add] at q1 q2 q3 q4 q5 q6 q7 q8
  have HC := Hid.mk (fun u => never_p false b1 b2 b3 no nn nc b5 xo nx xc ao NA ac oo NO oc u z1 z2 z3 z4)
  simp only [Bool.not_false, Bool.true_and] at HC
  have HAl := Hid.mk (fun o => below1 w o)
  have qa : ∀ o, (w.alloc o).cell? ⟨B, 0, none⟩ = some (.bool b0) := fun o => ((below1 w o).cell (p := ⟨B, 0, none⟩) hx.lt).trans q0
  clear hx
  cases b0 with
  | false =>
    go_enter Tryz.func26, Tryz.ntmps26
    go_wp2_with fail
    go_ret
    exact ⟨by first | rfl | simp, HAl.out _⟩
  | true =>
    go_enter Tryz.func26, Tryz.ntmps26
    go_wp2_with fail
    refine (HC.out _).mono ?_
    rintro e w1 ⟨rfl, hb1⟩
    have HB1 := Hid.mk ((HAl.out (.cells #[.bool false, .bool b1, .bool b2, .bool b3, .slice no nn nc, .bool b5, .slice xo nx xc, .slice ao NA ac, .slice oo NO oc] 27)).trans (hb1.mono (by simp)))
    clear hb1 q0 q1 q2 q3 q4 q5 q6 q7 q8 qa
    go_wp2_with fail
    go_ret
    exact ⟨by first | rfl | simp, HB1.out⟩

set_option maxRecDepth 100000 in
set_option maxHeartbeats 1600000 in
theorem w_textsFormed (hx : AskBx w B b0 b1 b2 b3 no nn nc b5 xo nx xc ao NA ac oo NO oc) (z2 : nx ≤ 140737488355328) (ri : Bool) (HRi : Hid (∀ u, Below w.heap.size w u → Calls Tryz.prog 52 #[.slice xo nx xc] u fun e w' => e = .returned (.bool ri) ∧ Below u.heap.size u w')) :
    Calls Tryz.prog 28 #[.pointer (some ⟨B, 0, none⟩)] w fun e w' => e = .returned (.bool (ri && !(b5 && decide (0 < nx)))) ∧ Below w.heap.size w w' := by
  have HX := Hid.mk hx
  obtain ⟨q0, q1, q2, q3, q4, q5, q6, q7, q8⟩ := hx.nine
  simp only [Nat.zero_add] at q1 q2 q3 q4 q5 q6 q7 q8
  clear hx
  cases ri with
  | false =>
    go_enter Tryz.func28, Tryz.ntmps28
    go_wp2_with fail
    refine (HRi.out _ (Below.refl _ _)).mono ?_
    rintro e w1 ⟨rfl, hb1⟩
    have HB1 := Hid.mk hb1
    clear hb1 q0 q1 q2 q3 q4 q5 q6 q7 q8
    go_wp2_with fail
    go_ret
    exact ⟨by first | rfl | simp, HB1.out⟩
  | true =>
    by_cases hz : 0 < nx
    · have hz1 : (0 : Int) < (nx : Int) := by omega
      have hzd := decide_eq_true hz
      cases b5
      all_goals
        go_enter Tryz.func28, Tryz.ntmps28
        go_wp2_with fail
        refine (HRi.out _ (Below.refl _ _)).mono ?_
        rintro e w1 ⟨rfl, hb1⟩
        have HX1 := HX.out.keep hb1
        have HB1 := Hid.mk hb1
        clear hb1 q0 q1 q2 q3 q4 q5 q6 q7 q8
        obtain ⟨q0, q1, q2, q3, q4, q5, q6, q7, q8⟩ := HX1.nine
        simp only [Nat.zero_add] at q1 q2 q3 q4 q5 q6 q7 q8
        go_wp2_with fail
        go_ret
        exact ⟨by first | rfl | (simp [hz]; done) | simp [hzd], HB1.out⟩
    · have hz1 : ¬ (0 : Int) < (nx : Int) := by omega
      have hzd := decide_eq_false hz
      cases b5
      all_goals
        go_enter Tryz.func28, Tryz.ntmps28
        go_wp2_with fail
        refine (HRi.out _ (Below.refl _ _)).mono ?_
        rintro e w1 ⟨rfl, hb1⟩
        have HX1 := HX.out.keep hb1
        have HB1 := Hid.mk hb1
        clear hb1 q0 q1 q2 q3 q4 q5 q6 q7 q8
        obtain ⟨q0, q1, q2, q3, q4, q5, q6, q7, q8⟩ := HX1.nine
        simp only [Nat.zero_add] at q1 q2 q3 q4 q5 q6 q7 q8
        go_wp2_with fail
        go_ret
        exact ⟨by first | rfl | (simp [hz]; done) | simp [hzd], HB1.out⟩
end

set_option maxRecDepth 100000 in
set_option maxHeartbeats 1600000 in
theorem w_pbound (s : ByteArray) (w : World) (hs : s.size ≤ 140737488355328) : Calls Tryz.prog 50 #[.string s] w fun e w' => e = .returned (.bool (bndB s)) ∧ Below w.heap.size w w' := by
  have HC := Hid.mk (fun u => w_Formed s u (by unfold maxLen; omega))
  by_cases hz : s.size = 0
  · have hl := list_none hz
    have hb : bndB s = true := by simp [bndB, hz]
    rw [hb]
    go_enter Tryz.func50, Tryz.ntmps50
    go_wp2_with fail
    go_ret
    exact ⟨by first | rfl | simp, Below.refl _ _⟩
  · have hl := list_some hz
    have hl2 : s.toList.isEmpty = false := by cases hh : s.toList with | nil => exact absurd hh hl | cons => rfl
    have hb : bndB s = Pl.formed s.data.toList := by simp [bndB, hz]
    rw [hb]
    generalize Pl.formed s.data.toList = r at *
    go_enter Tryz.func50, Tryz.ntmps50
    go_wp2_with fail
    refine (HC.out _).mono ?_
    rintro e w1 ⟨rfl, hb1⟩
    have HB1 := Hid.mk hb1
    clear hb1
    go_wp2_with fail
    go_ret
    exact ⟨by first | rfl | (simp; done) | simp [hl], HB1.out⟩
end Go.Proofs.YthcohnnikmpjkaaGreat
