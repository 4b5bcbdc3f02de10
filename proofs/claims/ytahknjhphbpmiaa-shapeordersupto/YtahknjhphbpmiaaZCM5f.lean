import Derived.Test.YtahknjhphbpmiaaZCM4
import Derived.Test.YtahknjhphbpmiaaZCM3s
import Derived.Test.YtahknjhphbpmiaaZSF0
namespace Go.Proofs.Ytahknjhphbpmiaa
open Go.RowKit Go.Shelf Go.Sort
set_option linter.unusedVariables false
set_option linter.unusedSimpArgs false
attribute [local go_sem] Oper.semAt_some


section
variable (b0 b1 b2 b3 : Bool) (no : Option Addr) (nn nc : Nat) (b5 : Bool) (xo : Option Addr) (nx xc : Nat) (ao : Option Addr) (NA ac : Nat) (oo : Option Addr) (NO oc : Nat) (e0 e1 e2 e3 : Bool) (no2 : Option Addr) (nn2 nc2 : Nat) (e5 : Bool) (xo2 : Option Addr) (nx2 xc2 : Nat) (ao2 : Option Addr) (NA2 ac2 : Nat) (oo2 : Option Addr) (NO2 oc2 : Nat) (w : World) (B : Nat)

set_option maxRecDepth 100000 in
set_option maxHeartbeats 3200000 in
theorem w_byFlags (hx : AskBx w B b0 b1 b2 b3 no nn nc b5 xo nx xc ao NA ac oo NO oc) : Calls Try.prog 43 #[.pointer (some ⟨B, 0, none⟩), .agg #[.bool e0, .bool e1, .bool e2, .bool e3, .slice no2 nn2 nc2, .bool e5, .slice xo2 nx2 xc2, .slice ao2 NA2 ac2, .slice oo2 NO2 oc2]] w fun e w' => e = .returned (.int .i64 (Pl.orI (setC b0 e0) (Pl.orI (setC b1 e1) (Pl.orI (setC b2 e2) (setC b3 e3))))) ∧ Below w.heap.size w w' := by
  have HX := Hid.mk (tbx_new w (.bool e0) (.bool e1) (.bool e2) (.bool e3) (.slice no2 nn2 nc2) (.bool e5) (.slice xo2 nx2 xc2) (.slice ao2 NA2 ac2) (.slice oo2 NO2 oc2))
  obtain ⟨W0, hW0⟩ : ∃ W0, w.alloc (.cells #[.bool e0, .bool e1, .bool e2, .bool e3, .slice no2 nn2 nc2, .bool e5, .slice xo2 nx2 xc2, .slice ao2 NA2 ac2, .slice oo2 NO2 oc2] 27) = W0 := ⟨_, rfl⟩
  rw [hW0] at HX
  have HA := Hid.mk (hx.keep (W' := W0) (by rw [← hW0]; exact below1 _ _))
  clear hx
  obtain ⟨⟨a0, a1, a2, a3, a4, a5, a6, a7, a8⟩, _⟩ := HA.out
  obtain ⟨_, q0, q1, q2, q3, q4, q5, q6, q7, q8, _⟩ := HX.out
  simp only [Nat.zero_add] at a1 a2 a3 a4 a5 a6 a7 a8
  have C0 := Hid.mk (fun (d : Nat) (os : Array Obj) => (w_bySet b0 e0 (grow (redrawn W0 d) os)).mono (fun e w' k => (⟨k.1, by rw [k.2]; exact Below.refl _ _⟩ : e = .returned (.int .i64 (setC b0 e0)) ∧ Below (grow (redrawn W0 d) os).heap.size (grow (redrawn W0 d) os) w')))
  have C1 := Hid.mk (fun (d : Nat) (os : Array Obj) => (w_bySet b1 e1 (grow (redrawn W0 d) os)).mono (fun e w' k => (⟨k.1, by rw [k.2]; exact Below.refl _ _⟩ : e = .returned (.int .i64 (setC b1 e1)) ∧ Below (grow (redrawn W0 d) os).heap.size (grow (redrawn W0 d) os) w')))
  have C2 := Hid.mk (fun (d : Nat) (os : Array Obj) => (w_bySet b2 e2 (grow (redrawn W0 d) os)).mono (fun e w' k => (⟨k.1, by rw [k.2]; exact Below.refl _ _⟩ : e = .returned (.int .i64 (setC b2 e2)) ∧ Below (grow (redrawn W0 d) os).heap.size (grow (redrawn W0 d) os) w')))
  have C3 := Hid.mk (fun (d : Nat) (os : Array Obj) => (w_bySet b3 e3 (grow (redrawn W0 d) os)).mono (fun e w' k => (⟨k.1, by rw [k.2]; exact Below.refl _ _⟩ : e = .returned (.int .i64 (setC b3 e3)) ∧ Below (grow (redrawn W0 d) os).heap.size (grow (redrawn W0 d) os) w')))
  have HG : Hid (Pl.orI (setC b0 e0) (Pl.orI (setC b1 e1) (Pl.orI (setC b2 e2) (setC b3 e3))) = Pl.orI (setC b0 e0) (Pl.orI (setC b1 e1) (Pl.orI (setC b2 e2) (setC b3 e3)))) := rfl
  obtain ⟨R, hR⟩ : ∃ R, Pl.orI (setC b0 e0) (Pl.orI (setC b1 e1) (Pl.orI (setC b2 e2) (setC b3 e3))) = R := ⟨_, rfl⟩
  have HR := Hid.mk hR.symm
  rw [hR]
  clear hR HG
  generalize setC b0 e0 = x0 at C0 HR
  generalize setC b1 e1 = x1 at C1 HR
  generalize setC b2 e2 = x2 at C2 HR
  generalize setC b3 e3 = x3 at C3 HR
  have A0 := fun d os => cell_regrown a0 d os
  have Q0 := fun d os => cell_regrown q0 d os
  have A1 := fun d os => cell_regrown a1 d os
  have Q1 := fun d os => cell_regrown q1 d os
  have A2 := fun d os => cell_regrown a2 d os
  have Q2 := fun d os => cell_regrown q2 d os
  have A3 := fun d os => cell_regrown a3 d os
  have Q3 := fun d os => cell_regrown q3 d os
  clear a4 a5 a6 a7 a8 q4 q5 q6 q7 q8
  go_enter Try.func43, Try.ntmps43
  go_wp2_with fail
  refine wp_region_quiet_at 28 (by kernel_rfl) (by kernel_rfl) (by kernel_rfl) (by kernel_rfl) (by kernel_rfl) ?_
  simp only [List.take_succ_cons, List.take_zero, List.drop_succ_cons, List.drop_zero]
  iterate 7 (go_big_quiet_step (exact Calls.regrown_of (C0.out _ _)))
  iterate 7 (go_big_quiet_step (exact Calls.regrown_of (C1.out _ _)))
  iterate 7 (go_big_quiet_step (exact Calls.regrown_of (C2.out _ _)))
  iterate 7 (go_big_quiet_step (exact Calls.regrown_of (C3.out _ _)))
  refine wpQuiet_nil ?_
  intro w9 hw'
  have hb9 : Below W0.heap.size W0 w9 := by
    obtain ⟨⟨dq, osq⟩, rfl⟩ := hw'
    exact below_regrown W0 dq osq
  have HX9 := Hid.mk (HX.out.keep hb9)
  clear hw' hb9 hW0 A0 A1 A2 A3 Q0 Q1 Q2 Q3 a0 a1 a2 a3 q0 q1 q2 q3 C0 C1 C2 C3
  go_wp2_with fail
  refine (w_Or4 w9.heap.size x0 x1 x2 x3 _ (by simp) (by simp) (by simp) (by simp)).mono ?_
  rintro e w1 ⟨rfl, rfl⟩
  go_wp2_with fail
  go_ret
  exact ⟨by rw [HR.out]; rfl, HX9.out.below.alloc HX9.out.below.size _⟩

set_option maxRecDepth 100000 in
set_option maxHeartbeats 3200000 in
theorem w_byAnyText (hx : AskBx w B b0 b1 b2 b3 no nn nc b5 xo nx xc ao NA ac oo NO oc) : Calls Try.prog 45 #[.pointer (some ⟨B, 0, none⟩), .agg #[.bool e0, .bool e1, .bool e2, .bool e3, .slice no2 nn2 nc2, .bool e5, .slice xo2 nx2 xc2, .slice ao2 NA2 ac2, .slice oo2 NO2 oc2]] w fun e w' => e = .returned (.int .i64 (setC b5 e5)) ∧ Below w.heap.size w w' := by
  have HX := Hid.mk (tbx_new w (.bool e0) (.bool e1) (.bool e2) (.bool e3) (.slice no2 nn2 nc2) (.bool e5) (.slice xo2 nx2 xc2) (.slice ao2 NA2 ac2) (.slice oo2 NO2 oc2))
  obtain ⟨W0, hW0⟩ : ∃ W0, w.alloc (.cells #[.bool e0, .bool e1, .bool e2, .bool e3, .slice no2 nn2 nc2, .bool e5, .slice xo2 nx2 xc2, .slice ao2 NA2 ac2, .slice oo2 NO2 oc2] 27) = W0 := ⟨_, rfl⟩
  rw [hW0] at HX
  have HA := Hid.mk (hx.keep (W' := W0) (by rw [← hW0]; exact below1 _ _))
  clear hx
  obtain ⟨⟨a0, a1, a2, a3, a4, a5, a6, a7, a8⟩, _⟩ := HA.out
  obtain ⟨_, q0, q1, q2, q3, q4, q5, q6, q7, q8, _⟩ := HX.out
  simp only [Nat.zero_add] at a1 a2 a3 a4 a5 a6 a7 a8
  have C1 := Hid.mk (fun (d : Nat) (os : Array Obj) => (w_bySet b5 e5 (grow (redrawn W0 d) os)).mono (fun e w' k => (⟨k.1, by rw [k.2]; exact Below.refl _ _⟩ : e = .returned (.int .i64 (setC b5 e5)) ∧ Below (grow (redrawn W0 d) os).heap.size (grow (redrawn W0 d) os) w')))
  generalize setC b5 e5 = x at C1 ⊢
  have A0 := fun d os => cell_regrown a5 d os
  have Q0 := fun d os => cell_regrown q5 d os
  clear a0 q0 a1 q1 a2 q2 a3 q3 a4 q4 a6 q6 a7 q7 a8 q8
  go_enter Try.func45, Try.ntmps45
  go_wp2_with fail
  refine wp_region_quiet_below (by kernel_rfl) (by kernel_rfl) ?_
  repeat (go_big_quiet_step (exact Calls.regrown_of (C1.out _ _)))
  refine wpQuiet_nil ?_
  intro w9 hw'
  have hb9 : Below W0.heap.size W0 w9 := by
    obtain ⟨⟨dq, osq⟩, rfl⟩ := hw'
    exact below_regrown W0 dq osq
  have HX9 := Hid.mk (HX.out.keep hb9)
  clear hw' hb9 hW0 A0 Q0
  go_wp2_with fail
  go_ret
  exact ⟨by first | rfl | simp, HX9.out.below⟩

set_option maxRecDepth 100000 in
set_option maxHeartbeats 3200000 in
theorem w_byNums (hx : AskBx w B b0 b1 b2 b3 no nn nc b5 xo nx xc ao NA ac oo NO oc) (c : Int) (HC : Hid (∀ u, Below w.heap.size w u → Calls Try.prog 65 #[.slice no nn nc, .slice no2 nn2 nc2, .func (.func 66) #[] #[]] u fun e w' => e = .returned (.int .i64 c) ∧ Below u.heap.size u w')) : Calls Try.prog 44 #[.pointer (some ⟨B, 0, none⟩), .agg #[.bool e0, .bool e1, .bool e2, .bool e3, .slice no2 nn2 nc2, .bool e5, .slice xo2 nx2 xc2, .slice ao2 NA2 ac2, .slice oo2 NO2 oc2]] w fun e w' => e = .returned (.int .i64 (c)) ∧ Below w.heap.size w w' := by
  have HX := Hid.mk (tbx_new w (.bool e0) (.bool e1) (.bool e2) (.bool e3) (.slice no2 nn2 nc2) (.bool e5) (.slice xo2 nx2 xc2) (.slice ao2 NA2 ac2) (.slice oo2 NO2 oc2))
  obtain ⟨W0, hW0⟩ : ∃ W0, w.alloc (.cells #[.bool e0, .bool e1, .bool e2, .bool e3, .slice no2 nn2 nc2, .bool e5, .slice xo2 nx2 xc2, .slice ao2 NA2 ac2, .slice oo2 NO2 oc2] 27) = W0 := ⟨_, rfl⟩
  rw [hW0] at HX
  have HA := Hid.mk (hx.keep (W' := W0) (by rw [← hW0]; exact below1 _ _))
  clear hx
  obtain ⟨⟨a0, a1, a2, a3, a4, a5, a6, a7, a8⟩, _⟩ := HA.out
  obtain ⟨_, q0, q1, q2, q3, q4, q5, q6, q7, q8, _⟩ := HX.out
  simp only [Nat.zero_add] at a1 a2 a3 a4 a5 a6 a7 a8
  have C1 := Hid.mk (fun (d : Nat) (os : Array Obj) => HC.out (grow (redrawn W0 d) os) (HX.out.below.trans ((below_regrown W0 d os).mono HX.out.below.size)))
  have A0 := fun d os => cell_regrown a4 d os
  have Q0 := fun d os => cell_regrown q4 d os
  clear a0 q0 a1 q1 a2 q2 a3 q3 a5 q5 a6 q6 a7 q7 a8 q8
  go_enter Try.func44, Try.ntmps44
  go_wp2_with fail
  refine wp_region_quiet_below (by kernel_rfl) (by kernel_rfl) ?_
  repeat (go_big_quiet_step (exact Calls.regrown_of (C1.out _ _)))
  refine wpQuiet_nil ?_
  intro w9 hw'
  have hb9 : Below W0.heap.size W0 w9 := by
    obtain ⟨⟨dq, osq⟩, rfl⟩ := hw'
    exact below_regrown W0 dq osq
  have HX9 := Hid.mk (HX.out.keep hb9)
  clear hw' hb9 hW0 A0 Q0
  go_wp2_with fail
  go_ret
  exact ⟨by first | rfl | simp, HX9.out.below⟩

set_option maxRecDepth 100000 in
set_option maxHeartbeats 3200000 in
theorem w_byTexts (hx : AskBx w B b0 b1 b2 b3 no nn nc b5 xo nx xc ao NA ac oo NO oc) (c : Int) (HC : Hid (∀ u, Below w.heap.size w u → Calls Try.prog 67 #[.slice xo nx xc, .slice xo2 nx2 xc2] u fun e w' => e = .returned (.int .i64 c) ∧ Below u.heap.size u w')) : Calls Try.prog 46 #[.pointer (some ⟨B, 0, none⟩), .agg #[.bool e0, .bool e1, .bool e2, .bool e3, .slice no2 nn2 nc2, .bool e5, .slice xo2 nx2 xc2, .slice ao2 NA2 ac2, .slice oo2 NO2 oc2]] w fun e w' => e = .returned (.int .i64 (c)) ∧ Below w.heap.size w w' := by
  have HX := Hid.mk (tbx_new w (.bool e0) (.bool e1) (.bool e2) (.bool e3) (.slice no2 nn2 nc2) (.bool e5) (.slice xo2 nx2 xc2) (.slice ao2 NA2 ac2) (.slice oo2 NO2 oc2))
  obtain ⟨W0, hW0⟩ : ∃ W0, w.alloc (.cells #[.bool e0, .bool e1, .bool e2, .bool e3, .slice no2 nn2 nc2, .bool e5, .slice xo2 nx2 xc2, .slice ao2 NA2 ac2, .slice oo2 NO2 oc2] 27) = W0 := ⟨_, rfl⟩
  rw [hW0] at HX
  have HA := Hid.mk (hx.keep (W' := W0) (by rw [← hW0]; exact below1 _ _))
  clear hx
  obtain ⟨⟨a0, a1, a2, a3, a4, a5, a6, a7, a8⟩, _⟩ := HA.out
  obtain ⟨_, q0, q1, q2, q3, q4, q5, q6, q7, q8, _⟩ := HX.out
  simp only [Nat.zero_add] at a1 a2 a3 a4 a5 a6 a7 a8
  have C1 := Hid.mk (fun (d : Nat) (os : Array Obj) => HC.out (grow (redrawn W0 d) os) (HX.out.below.trans ((below_regrown W0 d os).mono HX.out.below.size)))
  have A0 := fun d os => cell_regrown a6 d os
  have Q0 := fun d os => cell_regrown q6 d os
  clear a0 q0 a1 q1 a2 q2 a3 q3 a4 q4 a5 q5 a7 q7 a8 q8
  go_enter Try.func46, Try.ntmps46
  go_wp2_with fail
  refine wp_region_quiet_below (by kernel_rfl) (by kernel_rfl) ?_
  repeat (go_big_quiet_step (exact Calls.regrown_of (C1.out _ _)))
  refine wpQuiet_nil ?_
  intro w9 hw'
  have hb9 : Below W0.heap.size W0 w9 := by
    obtain ⟨⟨dq, osq⟩, rfl⟩ := hw'
    exact below_regrown W0 dq osq
  have HX9 := Hid.mk (HX.out.keep hb9)
  clear hw' hb9 hW0 A0 Q0
  go_wp2_with fail
  go_ret
  exact ⟨by first | rfl | simp, HX9.out.below⟩

set_option maxRecDepth 100000 in
set_option maxHeartbeats 3200000 in
theorem w_byArrays (hx : AskBx w B b0 b1 b2 b3 no nn nc b5 xo nx xc ao NA ac oo NO oc) (c : Int) (HC : Hid (∀ u, Below w.heap.size w u → Calls Try.prog 68 #[.slice ao NA ac, .slice ao2 NA2 ac2, .func (.func 69) #[] #[]] u fun e w' => e = .returned (.int .i64 c) ∧ Below u.heap.size u w')) : Calls Try.prog 47 #[.pointer (some ⟨B, 0, none⟩), .agg #[.bool e0, .bool e1, .bool e2, .bool e3, .slice no2 nn2 nc2, .bool e5, .slice xo2 nx2 xc2, .slice ao2 NA2 ac2, .slice oo2 NO2 oc2]] w fun e w' => e = .returned (.int .i64 (c)) ∧ Below w.heap.size w w' := by
  have HX := Hid.mk (tbx_new w (.bool e0) (.bool e1) (.bool e2) (.bool e3) (.slice no2 nn2 nc2) (.bool e5) (.slice xo2 nx2 xc2) (.slice ao2 NA2 ac2) (.slice oo2 NO2 oc2))
  obtain ⟨W0, hW0⟩ : ∃ W0, w.alloc (.cells #[.bool e0, .bool e1, .bool e2, .bool e3, .slice no2 nn2 nc2, .bool e5, .slice xo2 nx2 xc2, .slice ao2 NA2 ac2, .slice oo2 NO2 oc2] 27) = W0 := ⟨_, rfl⟩
  rw [hW0] at HX
  have HA := Hid.mk (hx.keep (W' := W0) (by rw [← hW0]; exact below1 _ _))
  clear hx
  obtain ⟨⟨a0, a1, a2, a3, a4, a5, a6, a7, a8⟩, _⟩ := HA.out
  obtain ⟨_, q0, q1, q2, q3, q4, q5, q6, q7, q8, _⟩ := HX.out
  simp only [Nat.zero_add] at a1 a2 a3 a4 a5 a6 a7 a8
  have C1 := Hid.mk (fun (d : Nat) (os : Array Obj) => HC.out (grow (redrawn W0 d) os) (HX.out.below.trans ((below_regrown W0 d os).mono HX.out.below.size)))
  have A0 := fun d os => cell_regrown a7 d os
  have Q0 := fun d os => cell_regrown q7 d os
  clear a0 q0 a1 q1 a2 q2 a3 q3 a4 q4 a5 q5 a6 q6 a8 q8
  go_enter Try.func47, Try.ntmps47
  go_wp2_with fail
  refine wp_region_quiet_below (by kernel_rfl) (by kernel_rfl) ?_
  repeat (go_big_quiet_step (exact Calls.regrown_of (C1.out _ _)))
  refine wpQuiet_nil ?_
  intro w9 hw'
  have hb9 : Below W0.heap.size W0 w9 := by
    obtain ⟨⟨dq, osq⟩, rfl⟩ := hw'
    exact below_regrown W0 dq osq
  have HX9 := Hid.mk (HX.out.keep hb9)
  clear hw' hb9 hW0 A0 Q0
  go_wp2_with fail
  go_ret
  exact ⟨by first | rfl | simp, HX9.out.below⟩

set_option maxRecDepth 100000 in
set_option maxHeartbeats 3200000 in
theorem w_byObjects (hx : AskBx w B b0 b1 b2 b3 no nn nc b5 xo nx xc ao NA ac oo NO oc) (c : Int) (HC : Hid (∀ u, Below w.heap.size w u → Calls Try.prog 70 #[.slice oo NO oc, .slice oo2 NO2 oc2, .func (.func 71) #[] #[]] u fun e w' => e = .returned (.int .i64 c) ∧ Below u.heap.size u w')) : Calls Try.prog 48 #[.pointer (some ⟨B, 0, none⟩), .agg #[.bool e0, .bool e1, .bool e2, .bool e3, .slice no2 nn2 nc2, .bool e5, .slice xo2 nx2 xc2, .slice ao2 NA2 ac2, .slice oo2 NO2 oc2]] w fun e w' => e = .returned (.int .i64 (c)) ∧ Below w.heap.size w w' := by
  have HX := Hid.mk (tbx_new w (.bool e0) (.bool e1) (.bool e2) (.bool e3) (.slice no2 nn2 nc2) (.bool e5) (.slice xo2 nx2 xc2) (.slice ao2 NA2 ac2) (.slice oo2 NO2 oc2))
  obtain ⟨W0, hW0⟩ : ∃ W0, w.alloc (.cells #[.bool e0, .bool e1, .bool e2, .bool e3, .slice no2 nn2 nc2, .bool e5, .slice xo2 nx2 xc2, .slice ao2 NA2 ac2, .slice oo2 NO2 oc2] 27) = W0 := ⟨_, rfl⟩
  rw [hW0] at HX
  have HA := Hid.mk (hx.keep (W' := W0) (by rw [← hW0]; exact below1 _ _))
  clear hx
  obtain ⟨⟨a0, a1, a2, a3, a4, a5, a6, a7, a8⟩, _⟩ := HA.out
  obtain ⟨_, q0, q1, q2, q3, q4, q5, q6, q7, q8, _⟩ := HX.out
  simp only [Nat.zero_add] at a1 a2 a3 a4 a5 a6 a7 a8
  have C1 := Hid.mk (fun (d : Nat) (os : Array Obj) => HC.out (grow (redrawn W0 d) os) (HX.out.below.trans ((below_regrown W0 d os).mono HX.out.below.size)))
  have A0 := fun d os => cell_regrown a8 d os
  have Q0 := fun d os => cell_regrown q8 d os
  clear a0 q0 a1 q1 a2 q2 a3 q3 a4 q4 a5 q5 a6 q6 a7 q7
  go_enter Try.func48, Try.ntmps48
  go_wp2_with fail
  refine wp_region_quiet_below (by kernel_rfl) (by kernel_rfl) ?_
  repeat (go_big_quiet_step (exact Calls.regrown_of (C1.out _ _)))
  refine wpQuiet_nil ?_
  intro w9 hw'
  have hb9 : Below W0.heap.size W0 w9 := by
    obtain ⟨⟨dq, osq⟩, rfl⟩ := hw'
    exact below_regrown W0 dq osq
  have HX9 := Hid.mk (HX.out.keep hb9)
  clear hw' hb9 hW0 A0 Q0
  go_wp2_with fail
  go_ret
  exact ⟨by first | rfl | simp, HX9.out.below⟩

end
end Go.Proofs.Ytahknjhphbpmiaa
