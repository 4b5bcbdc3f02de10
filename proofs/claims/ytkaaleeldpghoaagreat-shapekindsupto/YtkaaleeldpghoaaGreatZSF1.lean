import Derived.Test.YtkaaleeldpghoaaGreatM20
import Derived.Test.YtkaaleeldpghoaaGreatZTYd
namespace Go.Proofs.YtkaaleeldpghoaaGreat
open Go.RowKit
set_option linter.unusedVariables false

/-- never and every, as trees -/
def ttNe : TT := .mk false false false false false [] [] [] []
def ttEv : TT := .mk true false false false false [] [] [] []
theorem inT_nev (W : World) (h : Nat) : InT W (h + 1) ttNe (.agg #[.bool false, .bool false, .bool false, .bool false, .slice none 0 0, .bool false, .slice none 0 0, .slice none 0 0, .slice none 0 0]) :=
  ⟨none, 0, none, 0, none, 0, none, 0, rfl, ⟨Nat.le_refl _, Nat.le_refl _, Nat.le_refl _, Nat.le_refl _⟩, ⟨Nat.zero_le _, Nat.zero_le _, Nat.zero_le _, Nat.zero_le _⟩, fun p hp => absurd hp (List.not_mem_nil), fun p hp => absurd hp (List.not_mem_nil), ⟨fun h => absurd h (Nat.lt_irrefl 0)⟩, ⟨fun h => absurd h (Nat.lt_irrefl 0)⟩, fun h => absurd h (Nat.lt_irrefl 0), fun h => absurd h (Nat.lt_irrefl 0)⟩
theorem inT_evr (W : World) (h : Nat) : InT W (h + 1) ttEv (.agg #[.bool true, .bool false, .bool false, .bool false, .slice none 0 0, .bool false, .slice none 0 0, .slice none 0 0, .slice none 0 0]) :=
  ⟨none, 0, none, 0, none, 0, none, 0, rfl, ⟨Nat.le_refl _, Nat.le_refl _, Nat.le_refl _, Nat.le_refl _⟩, ⟨Nat.zero_le _, Nat.zero_le _, Nat.zero_le _, Nat.zero_le _⟩, fun p hp => absurd hp (List.not_mem_nil), fun p hp => absurd hp (List.not_mem_nil), ⟨fun h => absurd h (Nat.lt_irrefl 0)⟩, ⟨fun h => absurd h (Nat.lt_irrefl 0)⟩, fun h => absurd h (Nat.lt_irrefl 0), fun h => absurd h (Nat.lt_irrefl 0)⟩
end Go.Proofs.YtkaaleeldpghoaaGreat
namespace Go.Proofs.YtkaaleeldpghoaaGreat
open Go.RowKit
set_option linter.unusedVariables false

/-- what the type has of each kind -/
structure AskBx (W : World) (B : Nat) (b0 b1 b2 b3 : Bool) (no : Option Addr) (nn nc : Nat) (b5 : Bool) (xo : Option Addr) (nx xc : Nat) (ao : Option Addr) (NA ac : Nat) (oo : Option Addr) (NO oc : Nat) : Prop where
  nine : C9 W B 0 (.bool b0) (.bool b1) (.bool b2) (.bool b3) (.slice no nn nc) (.bool b5) (.slice xo nx xc) (.slice ao NA ac) (.slice oo NO oc)
  lt : B < W.heap.size
theorem AskBx.keep {W W' : World} {B : Nat} {b0 b1 b2 b3 : Bool} {no : Option Addr} {nn nc : Nat} {b5 : Bool} {xo : Option Addr} {nx xc : Nat} {ao : Option Addr} {NA ac : Nat} {oo : Option Addr} {NO oc : Nat} (x : AskBx W B b0 b1 b2 b3 no nn nc b5 xo nx xc ao NA ac oo NO oc) (hb : Below W.heap.size W W') : AskBx W' B b0 b1 b2 b3 no nn nc b5 xo nx xc ao NA ac oo NO oc :=
  ⟨x.nine.keep hb x.lt, Nat.lt_of_lt_of_le x.lt hb.size⟩
end Go.Proofs.YtkaaleeldpghoaaGreat
namespace Go.Proofs.YtkaaleeldpghoaaGreat
open Go.RowKit Go.Shelf Go.Sort
set_option linter.unusedVariables false
set_option linter.unusedSimpArgs false
attribute [local go_sem] Oper.semAt_some

theorem w_bit0 (w : World) : Calls Tryz.prog 19 #[.int .i64 0] w fun e w' => e = .returned (.int .u8 1) ∧ w' = w := by
  go_enter Tryz.func19, Tryz.ntmps19
  go_wp2_with fail
  go_ret
  exact ⟨by first | rfl | decide, rfl⟩

section
variable (b0 b1 b2 b3 : Bool) (no : Option Addr) (nn nc : Nat) (b5 : Bool) (xo : Option Addr) (nx xc : Nat) (ao : Option Addr) (NA ac : Nat) (oo : Option Addr) (NO oc : Nat) (w : World) (B : Nat)

theorem w_hasNull (hx : AskBx w B b0 b1 b2 b3 no nn nc b5 xo nx xc ao NA ac oo NO oc) : Calls Tryz.prog 43 #[.pointer (some ⟨B, 0, none⟩)] w fun e w' => e = .returned (.bool b1) ∧ w' = w := by
  obtain ⟨q0, q1, q2, q3, q4, q5, q6, q7, q8⟩ := hx.nine
  simp only [Nat.zero_add] at q1 q2 q3 q4 q5 q6 q7 q8
  go_enter Tryz.func43, Tryz.ntmps43
  go_wp2_with fail
  go_ret
  exact ⟨rfl, rfl⟩
theorem w_hasFalse (hx : AskBx w B b0 b1 b2 b3 no nn nc b5 xo nx xc ao NA ac oo NO oc) : Calls Tryz.prog 44 #[.pointer (some ⟨B, 0, none⟩)] w fun e w' => e = .returned (.bool b2) ∧ w' = w := by
  obtain ⟨q0, q1, q2, q3, q4, q5, q6, q7, q8⟩ := hx.nine
  simp only [Nat.zero_add] at q1 q2 q3 q4 q5 q6 q7 q8
  go_enter Tryz.func44, Tryz.ntmps44
  go_wp2_with fail
  go_ret
  exact ⟨rfl, rfl⟩
theorem w_hasTrue (hx : AskBx w B b0 b1 b2 b3 no nn nc b5 xo nx xc ao NA ac oo NO oc) : Calls Tryz.prog 45 #[.pointer (some ⟨B, 0, none⟩)] w fun e w' => e = .returned (.bool b3) ∧ w' = w := by
  obtain ⟨q0, q1, q2, q3, q4, q5, q6, q7, q8⟩ := hx.nine
  simp only [Nat.zero_add] at q1 q2 q3 q4 q5 q6 q7 q8
  go_enter Tryz.func45, Tryz.ntmps45
  go_wp2_with fail
  go_ret
  exact ⟨rfl, rfl⟩
theorem gt0_dec (n : Nat) : decide (0 < (n : Int)) = decide (0 < n) := decide_eq_decide.2 (by omega)
theorem w_hasNumbers (hx : AskBx w B b0 b1 b2 b3 no nn nc b5 xo nx xc ao NA ac oo NO oc) (h1 : nn ≤ 140737488355328) : Calls Tryz.prog 46 #[.pointer (some ⟨B, 0, none⟩)] w fun e w' => e = .returned (.bool (decide (0 < nn))) ∧ w' = w := by
  obtain ⟨q0, q1, q2, q3, q4, q5, q6, q7, q8⟩ := hx.nine
  simp only [Nat.zero_add] at q1 q2 q3 q4 q5 q6 q7 q8
  have HE := Hid.mk (gt0_dec nn)
  go_enter Tryz.func46, Tryz.ntmps46
  go_wp2_with fail
  go_ret
  exact ⟨by first | (rw [← HE.out]; rfl) | (rw [← HE.out]; simp), rfl⟩
theorem w_hasArrays (hx : AskBx w B b0 b1 b2 b3 no nn nc b5 xo nx xc ao NA ac oo NO oc) (h1 : NA ≤ 140737488355328) : Calls Tryz.prog 48 #[.pointer (some ⟨B, 0, none⟩)] w fun e w' => e = .returned (.bool (decide (0 < NA))) ∧ w' = w := by
  obtain ⟨q0, q1, q2, q3, q4, q5, q6, q7, q8⟩ := hx.nine
  simp only [Nat.zero_add] at q1 q2 q3 q4 q5 q6 q7 q8
  have HE := Hid.mk (gt0_dec NA)
  go_enter Tryz.func48, Tryz.ntmps48
  go_wp2_with fail
  go_ret
  exact ⟨by first | (rw [← HE.out]; rfl) | (rw [← HE.out]; simp), rfl⟩
theorem w_hasObjects (hx : AskBx w B b0 b1 b2 b3 no nn nc b5 xo nx xc ao NA ac oo NO oc) (h1 : NO ≤ 140737488355328) : Calls Tryz.prog 49 #[.pointer (some ⟨B, 0, none⟩)] w fun e w' => e = .returned (.bool (decide (0 < NO))) ∧ w' = w := by
  obtain ⟨q0, q1, q2, q3, q4, q5, q6, q7, q8⟩ := hx.nine
  simp only [Nat.zero_add] at q1 q2 q3 q4 q5 q6 q7 q8
  have HE := Hid.mk (gt0_dec NO)
  go_enter Tryz.func49, Tryz.ntmps49
  go_wp2_with fail
  go_ret
  exact ⟨by first | (rw [← HE.out]; rfl) | (rw [← HE.out]; simp), rfl⟩
theorem w_hasTexts (hx : AskBx w B b0 b1 b2 b3 no nn nc b5 xo nx xc ao NA ac oo NO oc) (h1 : nx ≤ 140737488355328) : Calls Tryz.prog 47 #[.pointer (some ⟨B, 0, none⟩)] w fun e w' => e = .returned (.bool (b5 || decide (0 < nx))) ∧ w' = w := by
  obtain ⟨q0, q1, q2, q3, q4, q5, q6, q7, q8⟩ := hx.nine
  simp only [Nat.zero_add] at q1 q2 q3 q4 q5 q6 q7 q8
  have HE := Hid.mk (gt0_dec nx)
  cases b5
  · go_enter Tryz.func47, Tryz.ntmps47
    go_wp2_with fail
    go_ret
    exact ⟨by first | (rw [← HE.out]; rfl) | (rw [← HE.out]; simp), rfl⟩
  · go_enter Tryz.func47, Tryz.ntmps47
    go_wp2_with fail
    go_ret
    exact ⟨by first | rfl | simp, rfl⟩
end
end Go.Proofs.YtkaaleeldpghoaaGreat
