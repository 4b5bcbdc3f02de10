import Derived.Test.YthcohnnikmpjkaaGreatZTYd
namespace Go.Proofs.YthcohnnikmpjkaaGreat
open Go.RowKit Go.Shelf Go.Sort
set_option linter.unusedVariables false
set_option linter.unusedSimpArgs false
attribute [local go_sem] Oper.semAt_some

theorem w_bit0 (w : World) : Calls Tryz.prog 45 #[.int .i64 0] w fun e w' => e = .returned (.int .u8 1) ∧ w' = w := by
  go_enter Tryz.func45, Tryz.ntmps45
  go_wp2_with fail
  go_ret
  exact ⟨by first | rfl | decide, rfl⟩

/-- what the type has of each kind -/
structure AskBx (W : World) (B : Nat) (b0 b1 b2 b3 : Bool) (no : Option Addr) (nn nc : Nat) (b5 : Bool) (xo : Option Addr) (nx xc : Nat) (ao : Option Addr) (NA ac : Nat) (oo : Option Addr) (NO oc : Nat) : Prop where
  nine : C9 W B 0 (.bool b0) (.bool b1) (.bool b2) (.bool b3) (.slice no nn nc) (.bool b5) (.slice xo nx xc) (.slice ao NA ac) (.slice oo NO oc)
  lt : B < W.heap.size
theorem AskBx.keep {W W' : World} {B : Nat} {b0 b1 b2 b3 : Bool} {no : Option Addr} {nn nc : Nat} {b5 : Bool} {xo : Option Addr} {nx xc : Nat} {ao : Option Addr} {NA ac : Nat} {oo : Option Addr} {NO oc : Nat} (x : AskBx W B b0 b1 b2 b3 no nn nc b5 xo nx xc ao NA ac oo NO oc) (hb : Below W.heap.size W W') : AskBx W' B b0 b1 b2 b3 no nn nc b5 xo nx xc ao NA ac oo NO oc :=
  ⟨x.nine.keep hb x.lt, Nat.lt_of_lt_of_le x.lt hb.size⟩
section
variable (b0 b1 b2 b3 : Bool) (no : Option Addr) (nn nc : Nat) (b5 : Bool) (xo : Option Addr) (nx xc : Nat) (ao : Option Addr) (NA ac : Nat) (oo : Option Addr) (NO oc : Nat) (w : World) (B : Nat)

theorem w_hasNull (hx : AskBx w B b0 b1 b2 b3 no nn nc b5 xo nx xc ao NA ac oo NO oc) : Calls Tryz.prog 75 #[.pointer (some ⟨B, 0, none⟩)] w fun e w' => e = .returned (.bool b1) ∧ w' = w := by
  obtain ⟨q0, q1, q2, q3, q4, q5, q6, q7, q8⟩ := hx.nine
  simp only [Nat.zero_add] at q1 q2 q3 q4 q5 q6 q7 q8
  go_enter Tryz.func75, Tryz.ntmps75
  go_wp2_with fail
  go_ret
  exact ⟨rfl, rfl⟩
theorem w_hasFalse (hx : AskBx w B b0 b1 b2 b3 no nn nc b5 xo nx xc ao NA ac oo NO oc) : Calls Tryz.prog 76 #[.pointer (some ⟨B, 0, none⟩)] w fun e w' => e = .returned (.bool b2) ∧ w' = w := by
  obtain ⟨q0, q1, q2, q3, q4, q5, q6, q7, q8⟩ := hx.nine
  simp only [Nat.zero_add] at q1 q2 q3 q4 q5 q6 q7 q8
  go_enter Tryz.func76, Tryz.ntmps76
  go_wp2_with fail
  go_ret
  exact ⟨rfl, rfl⟩
theorem w_hasTrue (hx : AskBx w B b0 b1 b2 b3 no nn nc b5 xo nx xc ao NA ac oo NO oc) : Calls Tryz.prog 77 #[.pointer (some ⟨B, 0, none⟩)] w fun e w' => e = .returned (.bool b3) ∧ w' = w := by
  obtain ⟨q0, q1, q2, q3, q4, q5, q6, q7, q8⟩ := hx.nine
  simp only [Nat.zero_add] at q1 q2 q3 q4 q5 q6 q7 q8
  go_enter Tryz.func77, Tryz.ntmps77
  go_wp2_with fail
  go_ret
  exact ⟨rfl, rfl⟩
theorem gt0_dec (n : Nat) : decide (0 < (n : Int)) = decide (0 < n) := decide_eq_decide.2 (by omega)
theorem w_hasNumbers (hx : AskBx w B b0 b1 b2 b3 no nn nc b5 xo nx xc ao NA ac oo NO oc) (h1 : nn ≤ 140737488355328) : Calls Tryz.prog 78 #[.pointer (some ⟨B, 0, none⟩)] w fun e w' => e = .returned (.bool (decide (0 < nn))) ∧ w' = w := by
  obtain ⟨q0, q1, q2, q3, q4, q5, q6, q7, q8⟩ := hx.nine
  simp only [Nat.zero_add] at q1 q2 q3 q4 q5 q6 q7 q8
  have HE := Hid.mk (gt0_dec nn)
  go_enter Tryz.func78, Tryz.ntmps78
  go_wp2_with fail
  go_ret
  exact ⟨by first | (rw [← HE.out]; rfl) | (rw [← HE.out]; simp), rfl⟩
theorem w_hasArrays (hx : AskBx w B b0 b1 b2 b3 no nn nc b5 xo nx xc ao NA ac oo NO oc) (h1 : NA ≤ 140737488355328) : Calls Tryz.prog 80 #[.pointer (some ⟨B, 0, none⟩)] w fun e w' => e = .returned (.bool (decide (0 < NA))) ∧ w' = w := by
  obtain ⟨q0, q1, q2, q3, q4, q5, q6, q7, q8⟩ := hx.nine
  simp only [Nat.zero_add] at q1 q2 q3 q4 q5 q6 q7 q8
  have HE := Hid.mk (gt0_dec NA)
  go_enter Tryz.func80, Tryz.ntmps80
  go_wp2_with fail
  go_ret
  exact ⟨by first | (rw [← HE.out]; rfl) | (rw [← HE.out]; simp), rfl⟩
theorem w_hasObjects (hx : AskBx w B b0 b1 b2 b3 no nn nc b5 xo nx xc ao NA ac oo NO oc) (h1 : NO ≤ 140737488355328) : Calls Tryz.prog 81 #[.pointer (some ⟨B, 0, none⟩)] w fun e w' => e = .returned (.bool (decide (0 < NO))) ∧ w' = w := by
  obtain ⟨q0, q1, q2, q3, q4, q5, q6, q7, q8⟩ := hx.nine
  simp only [Nat.zero_add] at q1 q2 q3 q4 q5 q6 q7 q8
  have HE := Hid.mk (gt0_dec NO)
  go_enter Tryz.func81, Tryz.ntmps81
  go_wp2_with fail
  go_ret
  exact ⟨by first | (rw [← HE.out]; rfl) | (rw [← HE.out]; simp), rfl⟩
theorem w_hasTexts (hx : AskBx w B b0 b1 b2 b3 no nn nc b5 xo nx xc ao NA ac oo NO oc) (h1 : nx ≤ 140737488355328) : Calls Tryz.prog 79 #[.pointer (some ⟨B, 0, none⟩)] w fun e w' => e = .returned (.bool (b5 || decide (0 < nx))) ∧ w' = w := by
  obtain ⟨q0, q1, q2, q3, q4, q5, q6, q7, q8⟩ := hx.nine
  simp only [Nat.zero_add] at q1 q2 q3 q4 q5 q6 q7 q8
  have HE := Hid.mk (gt0_dec nx)
  cases b5
  · go_enter Tryz.func79, Tryz.ntmps79
    go_wp2_with fail
    go_ret
    exact ⟨by first | (rw [← HE.out]; rfl) | (rw [← HE.out]; simp), rfl⟩
  · go_enter Tryz.func79, Tryz.ntmps79
    go_wp2_with fail
    go_ret
    exact ⟨by first | rfl | simp, rfl⟩
end
end Go.Proofs.YthcohnnikmpjkaaGreat
