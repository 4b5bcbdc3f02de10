import Derived.Test.YtihhjplbpaafiaaZRB10
import Derived.Lib.QuietBelow
import Derived.BigQuiet
namespace Go.Proofs.Ytihhjplbpaafiaa
open Go.RowKit Go.Shelf Go.Sort
set_option linter.unusedVariables false
set_option linter.unusedSimpArgs false
attribute [local go_sem] Oper.semAt_some

set_option maxRecDepth 100000 in
set_option maxHeartbeats 6400000 in
theorem types_step (sa sb sc sd : Bool) (seo : Option Addr) (sen sec : Nat) (sf : Bool) (sgo : Option Addr) (sgn sgc : Nat) (sio : Option Addr) (sinn sic : Nat) (sjo : Option Addr) (sjn sjc : Nat) (ta tb tc td : Bool) (teo : Option Addr) (ten tec : Nat) (tf : Bool) (tgo : Option Addr) (tgn tgc : Nat) (tio : Option Addr) (tinn tic : Nat) (tjo : Option Addr) (tjn tjc : Nat) (w : World) (f1 f2 b : Bool)
    (H0 : Hid (∀ u, Calls Try.prog 6 #[] u fun e w' => e = .returned (.bool true) ∧ Below u.heap.size u w')) (H1 : Hid (∀ u, Below w.heap.size w u → Calls Try.prog 7 #[.agg #[.bool sa, .bool sb, .bool sc, .bool sd, .slice seo sen sec, .bool sf, .slice sgo sgn sgc, .slice sio sinn sic, .slice sjo sjn sjc]] u fun e w' => e = .returned (.bool f1) ∧ Below u.heap.size u w')) (H2 : Hid (∀ u, Below w.heap.size w u → Calls Try.prog 7 #[.agg #[.bool ta, .bool tb, .bool tc, .bool td, .slice teo ten tec, .bool tf, .slice tgo tgn tgc, .slice tio tinn tic, .slice tjo tjn tjc]] u fun e w' => e = .returned (.bool f2) ∧ Below u.heap.size u w'))
    (H3 : Hid (f1 = true → f2 = true → ∀ u, Below w.heap.size w u → Calls Try.prog 8 #[.agg #[.bool sa, .bool sb, .bool sc, .bool sd, .slice seo sen sec, .bool sf, .slice sgo sgn sgc, .slice sio sinn sic, .slice sjo sjn sjc], .agg #[.bool ta, .bool tb, .bool tc, .bool td, .slice teo ten tec, .bool tf, .slice tgo tgn tgc, .slice tio tinn tic, .slice tjo tjn tjc]] u fun e w' => e = .returned (.bool b) ∧ Below u.heap.size u w')) (H4 : Hid (f1 = true → f2 = true → ∀ u, Below w.heap.size w u → Calls Try.prog 9 #[.agg #[.bool sa, .bool sb, .bool sc, .bool sd, .slice seo sen sec, .bool sf, .slice sgo sgn sgc, .slice sio sinn sic, .slice sjo sjn sjc], .agg #[.bool ta, .bool tb, .bool tc, .bool td, .slice teo ten tec, .bool tf, .slice tgo tgn tgc, .slice tio tinn tic, .slice tjo tjn tjc]] u fun e w' => e = .returned (.bool b) ∧ Below u.heap.size u w')) :
    Calls Try.prog 3 #[.agg #[.bool sa, .bool sb, .bool sc, .bool sd, .slice seo sen sec, .bool sf, .slice sgo sgn sgc, .slice sio sinn sic, .slice sjo sjn sjc], .agg #[.bool ta, .bool tb, .bool tc, .bool td, .slice teo ten tec, .bool tf, .slice tgo tgn tgc, .slice tio tinn tic, .slice tjo tjn tjc]] w fun e w' => e = .returned (.bool true) ∧ Below w.heap.size w w' := by
  have HX := Hid.mk (bx2_new w #[.bool sa, .bool sb, .bool sc, .bool sd, .slice seo sen sec, .bool sf, .slice sgo sgn sgc, .slice sio sinn sic, .slice sjo sjn sjc] #[.bool ta, .bool tb, .bool tc, .bool td, .slice teo ten tec, .bool tf, .slice tgo tgn tgc, .slice tio tinn tic, .slice tjo tjn tjc] 27)
  obtain ⟨W0, hW0⟩ : ∃ W0, (w.alloc (.cells #[.bool sa, .bool sb, .bool sc, .bool sd, .slice seo sen sec, .bool sf, .slice sgo sgn sgc, .slice sio sinn sic, .slice sjo sjn sjc] 27)).alloc (.cells #[.bool ta, .bool tb, .bool tc, .bool td, .slice teo ten tec, .bool tf, .slice tgo tgn tgc, .slice tio tinn tic, .slice tjo tjn tjc] 27) = W0 := ⟨_, rfl⟩
  rw [hW0] at HX
  have p0 : W0.cell? ⟨w.heap.size, 0, none⟩ = _ := HX.out.one 0
  have q0 : W0.cell? ⟨w.heap.size + 1, 0, none⟩ = _ := HX.out.two 0
  have P0 := fun d os => cell_regrown p0 d os
  have Q0 := fun d os => cell_regrown q0 d os
  have p1 : W0.cell? ⟨w.heap.size, 1, none⟩ = _ := HX.out.one 1
  have q1 : W0.cell? ⟨w.heap.size + 1, 1, none⟩ = _ := HX.out.two 1
  have P1 := fun d os => cell_regrown p1 d os
  have Q1 := fun d os => cell_regrown q1 d os
  have p2 : W0.cell? ⟨w.heap.size, 2, none⟩ = _ := HX.out.one 2
  have q2 : W0.cell? ⟨w.heap.size + 1, 2, none⟩ = _ := HX.out.two 2
  have P2 := fun d os => cell_regrown p2 d os
  have Q2 := fun d os => cell_regrown q2 d os
  have p3 : W0.cell? ⟨w.heap.size, 3, none⟩ = _ := HX.out.one 3
  have q3 : W0.cell? ⟨w.heap.size + 1, 3, none⟩ = _ := HX.out.two 3
  have P3 := fun d os => cell_regrown p3 d os
  have Q3 := fun d os => cell_regrown q3 d os
  have p4 : W0.cell? ⟨w.heap.size, 4, none⟩ = _ := HX.out.one 4
  have q4 : W0.cell? ⟨w.heap.size + 1, 4, none⟩ = _ := HX.out.two 4
  have P4 := fun d os => cell_regrown p4 d os
  have Q4 := fun d os => cell_regrown q4 d os
  have p5 : W0.cell? ⟨w.heap.size, 5, none⟩ = _ := HX.out.one 5
  have q5 : W0.cell? ⟨w.heap.size + 1, 5, none⟩ = _ := HX.out.two 5
  have P5 := fun d os => cell_regrown p5 d os
  have Q5 := fun d os => cell_regrown q5 d os
  have p6 : W0.cell? ⟨w.heap.size, 6, none⟩ = _ := HX.out.one 6
  have q6 : W0.cell? ⟨w.heap.size + 1, 6, none⟩ = _ := HX.out.two 6
  have P6 := fun d os => cell_regrown p6 d os
  have Q6 := fun d os => cell_regrown q6 d os
  have p7 : W0.cell? ⟨w.heap.size, 7, none⟩ = _ := HX.out.one 7
  have q7 : W0.cell? ⟨w.heap.size + 1, 7, none⟩ = _ := HX.out.two 7
  have P7 := fun d os => cell_regrown p7 d os
  have Q7 := fun d os => cell_regrown q7 d os
  have p8 : W0.cell? ⟨w.heap.size, 8, none⟩ = _ := HX.out.one 8
  have q8 : W0.cell? ⟨w.heap.size + 1, 8, none⟩ = _ := HX.out.two 8
  have P8 := fun d os => cell_regrown p8 d os
  have Q8 := fun d os => cell_regrown q8 d os
  cases f1 with
  | false =>
    have K0 := Hid.mk (fun (d : Nat) (os : Array Obj) => H0.out (grow (redrawn W0 d) os))
    have K1 := Hid.mk (fun (d : Nat) (os : Array Obj) => H1.out (grow (redrawn W0 d) os) (HX.out.below.trans ((below_regrown W0 d os).mono HX.out.below.size)))
    have K2 := Hid.mk (fun (d : Nat) (os : Array Obj) => H2.out (grow (redrawn W0 d) os) (HX.out.below.trans ((below_regrown W0 d os).mono HX.out.below.size)))
    go_enter Try.func3, Try.ntmps3
    go_wp2_with fail
    try rw [hW0]
    refine wp_region_quiet_below (by kernel_rfl) (by kernel_rfl) ?_
    iterate 4 (go_big_quiet_step (first | exact Calls.regrown_of (K0.out _ _) | exact Calls.regrown_of (K1.out _ _)))
    repeat (go_big_quiet_step (first | exact Calls.regrown_of (K2.out _ _)))
    refine wpQuiet_nil ?_
    intro w9 hw'
    have hb9 : Below W0.heap.size W0 w9 := by
      obtain ⟨⟨dq, osq⟩, rfl⟩ := hw'
      exact below_regrown W0 dq osq
    have HX9 := Hid.mk (HX.out.keep hb9)
    clear hw' hb9
    go_wp2_with fail
    go_ret
    exact ⟨by first | rfl | simp, HX9.out.below⟩
  | true =>
    cases f2 with
    | false =>
      have K0 := Hid.mk (fun (d : Nat) (os : Array Obj) => H0.out (grow (redrawn W0 d) os))
      have K1 := Hid.mk (fun (d : Nat) (os : Array Obj) => H1.out (grow (redrawn W0 d) os) (HX.out.below.trans ((below_regrown W0 d os).mono HX.out.below.size)))
      have K2 := Hid.mk (fun (d : Nat) (os : Array Obj) => H2.out (grow (redrawn W0 d) os) (HX.out.below.trans ((below_regrown W0 d os).mono HX.out.below.size)))
      go_enter Try.func3, Try.ntmps3
      go_wp2_with fail
      try rw [hW0]
      refine wp_region_quiet_below (by kernel_rfl) (by kernel_rfl) ?_
      iterate 4 (go_big_quiet_step (first | exact Calls.regrown_of (K0.out _ _) | exact Calls.regrown_of (K1.out _ _)))
      repeat (go_big_quiet_step (first | exact Calls.regrown_of (K2.out _ _)))
      refine wpQuiet_nil ?_
      intro w9 hw'
      have hb9 : Below W0.heap.size W0 w9 := by
        obtain ⟨⟨dq, osq⟩, rfl⟩ := hw'
        exact below_regrown W0 dq osq
      have HX9 := Hid.mk (HX.out.keep hb9)
      clear hw' hb9
      go_wp2_with fail
      go_ret
      exact ⟨by first | rfl | simp, HX9.out.below⟩
    | true =>
      have K0 := Hid.mk (fun (d : Nat) (os : Array Obj) => H0.out (grow (redrawn W0 d) os))
      have K1 := Hid.mk (fun (d : Nat) (os : Array Obj) => H1.out (grow (redrawn W0 d) os) (HX.out.below.trans ((below_regrown W0 d os).mono HX.out.below.size)))
      have K2 := Hid.mk (fun (d : Nat) (os : Array Obj) => H2.out (grow (redrawn W0 d) os) (HX.out.below.trans ((below_regrown W0 d os).mono HX.out.below.size)))
      have K3 := Hid.mk (fun (d : Nat) (os : Array Obj) => H3.out (by first | trivial | rfl) (by first | trivial | rfl) (grow (redrawn W0 d) os) (HX.out.below.trans ((below_regrown W0 d os).mono HX.out.below.size)))
      have K4 := Hid.mk (fun (d : Nat) (os : Array Obj) => H4.out (by first | trivial | rfl) (by first | trivial | rfl) (grow (redrawn W0 d) os) (HX.out.below.trans ((below_regrown W0 d os).mono HX.out.below.size)))
      go_enter Try.func3, Try.ntmps3
      go_wp2_with fail
      try rw [hW0]
      refine wp_region_quiet_below (by kernel_rfl) (by kernel_rfl) ?_
      iterate 4 (go_big_quiet_step (first | exact Calls.regrown_of (K0.out _ _) | exact Calls.regrown_of (K1.out _ _)))
      repeat (go_big_quiet_step (first | exact Calls.regrown_of (K2.out _ _) | exact Calls.regrown_of (K3.out _ _) | exact Calls.regrown_of (K4.out _ _)))
      refine wpQuiet_nil ?_
      intro w9 hw'
      have hb9 : Below W0.heap.size W0 w9 := by
        obtain ⟨⟨dq, osq⟩, rfl⟩ := hw'
        exact below_regrown W0 dq osq
      have HX9 := Hid.mk (HX.out.keep hb9)
      clear hw' hb9
      go_wp2_with fail
      go_ret
      exact ⟨by first | rfl | simp, HX9.out.below⟩

/-- THE LAW: Below by the document's rules -/
theorem w_BelowTypes (h : Nat) (A B : TT) (va vb : Value) (w : World) (hA : InT w h A va) (hB : InT w h B vb) (tA : tpN h A ≤ 1048576) (tB : tpN h B ≤ 1048576) :
    Calls Try.prog 3 #[va, vb] w fun e w' => e = .returned (.bool true) ∧ Below w.heap.size w w' := by
  obtain ⟨sa, sb, sc, sd, ⟨seo, sen, sec⟩, sf, ⟨sgo, sgn, sgc⟩, ⟨sio, sinn, sic⟩, ⟨sjo, sjn, sjc⟩, rfl⟩ := inT_shape hA
  obtain ⟨ta, tb, tc, td, ⟨teo, ten, tec⟩, tf, ⟨tgo, tgn, tgc⟩, ⟨tio, tinn, tic⟩, ⟨tjo, tjn, tjc⟩, rfl⟩ := inT_shape hB
  have fm : ∀ {x : Bool} {T : TT}, (x && fmN h T) = true → fmN h T = true := fun e => by rw [Bool.and_eq_true] at e; exact e.2
  exact types_step _ _ _ _ _ _ _ _ _ _ _ _ _ _ _ _ _ _ _ _ _ _ _ _ _ _ _ _ _ _ _ _ _ _ w _ _ (bwN h A B)
    (Hid.mk fun u => w_lives12 u)
    (Hid.mk fun u hu => w_formed12 h A _ u (hA.keep hu) tA)
    (Hid.mk fun u hu => w_formed12 h B _ u (hB.keep hu) tB)
    (Hid.mk fun e1 e2 u hu => w_Below h A B _ _ u (hA.keep hu) (hB.keep hu) (fm e1) (fm e2))
    (Hid.mk fun e1 e2 u hu => w_rBelow h A B _ _ u (hA.keep hu) (hB.keep hu) (fm e1) (fm e2) tA tB)
end Go.Proofs.Ytihhjplbpaafiaa
