import Derived.Test.YtihhjplbpaafiaaZBR1
import Derived.Test.YtihhjplbpaafiaaZBRp
import Derived.Test.YtihhjplbpaafiaaM50
import Derived.Lib.QuietBelow
import Derived.BigQuiet
namespace Go.Proofs.Ytihhjplbpaafiaa
open Go.RowKit Go.Shelf Go.Sort
set_option linter.unusedVariables false
set_option linter.unusedSimpArgs false
attribute [local go_sem] Oper.semAt_some

set_option maxRecDepth 100000 in
set_option maxHeartbeats 12800000 in
theorem row_step (sa sb sc sd sf : Bool) (seo sgo sio sjo : Option Addr) (sen sec sgn sgc sinn sic sjn sjc : Nat) (ta tb tc td tf : Bool) (teo tgo tio tjo : Option Addr) (ten tec tgn tgc tinn tic tjn tjc : Nat) (ka kb kc kd kf : Bool) (keo kgo kio kjo : Option Addr) (ken kec kgn kgc kinn kic kjn kjc : Nat) (w : World) (f1 f2 f3 n b1 b2 b3 x y : Bool)
    (H0 : Hid (∀ u, Calls Try.prog 6 #[] u fun e w' => e = .returned (.bool true) ∧ Below u.heap.size u w'))
    (H1 : Hid (∀ u, Below w.heap.size w u → Calls Try.prog 7 #[.agg #[.bool sa, .bool sb, .bool sc, .bool sd, .slice seo sen sec, .bool sf, .slice sgo sgn sgc, .slice sio sinn sic, .slice sjo sjn sjc]] u fun e w' => e = .returned (.bool f1) ∧ Below u.heap.size u w'))
    (H2 : Hid (∀ u, Below w.heap.size w u → Calls Try.prog 7 #[.agg #[.bool ta, .bool tb, .bool tc, .bool td, .slice teo ten tec, .bool tf, .slice tgo tgn tgc, .slice tio tinn tic, .slice tjo tjn tjc]] u fun e w' => e = .returned (.bool f2) ∧ Below u.heap.size u w'))
    (H3 : Hid (∀ u, Below w.heap.size w u → Calls Try.prog 7 #[.agg #[.bool ka, .bool kb, .bool kc, .bool kd, .slice keo ken kec, .bool kf, .slice kgo kgn kgc, .slice kio kinn kic, .slice kjo kjn kjc]] u fun e w' => e = .returned (.bool f3) ∧ Below u.heap.size u w'))
    (H4 : Hid (f1 = true → ∀ u, Below w.heap.size w u → Calls Try.prog 8 #[.agg #[.bool sa, .bool sb, .bool sc, .bool sd, .slice seo sen sec, .bool sf, .slice sgo sgn sgc, .slice sio sinn sic, .slice sjo sjn sjc], .agg #[.bool sa, .bool sb, .bool sc, .bool sd, .slice seo sen sec, .bool sf, .slice sgo sgn sgc, .slice sio sinn sic, .slice sjo sjn sjc]] u fun e w' => e = .returned (.bool true) ∧ Below u.heap.size u w'))
    (H5 : Hid (f1 = true → ∀ u, Below w.heap.size w u → Calls Try.prog 13 #[.agg #[.bool sa, .bool sb, .bool sc, .bool sd, .slice seo sen sec, .bool sf, .slice sgo sgn sgc, .slice sio sinn sic, .slice sjo sjn sjc], .agg #[.bool sa, .bool sb, .bool sc, .bool sd, .slice seo sen sec, .bool sf, .slice sgo sgn sgc, .slice sio sinn sic, .slice sjo sjn sjc]] u fun e w' => e = .returned (.bool n) ∧ Below u.heap.size u w'))
    (H6 : Hid (∀ u, Below w.heap.size w u → Calls Try.prog 14 #[.agg #[.bool sa, .bool sb, .bool sc, .bool sd, .slice seo sen sec, .bool sf, .slice sgo sgn sgc, .slice sio sinn sic, .slice sjo sjn sjc]] u fun e w' => e = .returned (.bool n) ∧ Below u.heap.size u w'))
    (H7 : Hid (f1 = true → f2 = true → ∀ u, Below w.heap.size w u → Calls Try.prog 8 #[.agg #[.bool sa, .bool sb, .bool sc, .bool sd, .slice seo sen sec, .bool sf, .slice sgo sgn sgc, .slice sio sinn sic, .slice sjo sjn sjc], .agg #[.bool ta, .bool tb, .bool tc, .bool td, .slice teo ten tec, .bool tf, .slice tgo tgn tgc, .slice tio tinn tic, .slice tjo tjn tjc]] u fun e w' => e = .returned (.bool b1) ∧ Below u.heap.size u w'))
    (H8 : Hid (f2 = true → f3 = true → ∀ u, Below w.heap.size w u → Calls Try.prog 8 #[.agg #[.bool ta, .bool tb, .bool tc, .bool td, .slice teo ten tec, .bool tf, .slice tgo tgn tgc, .slice tio tinn tic, .slice tjo tjn tjc], .agg #[.bool ka, .bool kb, .bool kc, .bool kd, .slice keo ken kec, .bool kf, .slice kgo kgn kgc, .slice kio kinn kic, .slice kjo kjn kjc]] u fun e w' => e = .returned (.bool b2) ∧ Below u.heap.size u w'))
    (HS : Hid (∀ u, Below w.heap.size w u → Calls Try.prog 15 #[.agg #[.bool ta, .bool tb, .bool tc, .bool td, .slice teo ten tec, .bool tf, .slice tgo tgn tgc, .slice tio tinn tic, .slice tjo tjn tjc]] u fun e w' => (∃ r, e = .returned (.bool r)) ∧ Below u.heap.size u w'))
    (HT : Hid (∀ u, Below w.heap.size w u → Calls Try.prog 15 #[.agg #[.bool ka, .bool kb, .bool kc, .bool kd, .slice keo ken kec, .bool kf, .slice kgo kgn kgc, .slice kio kinn kic, .slice kjo kjn kjc]] u fun e w' => (∃ r, e = .returned (.bool r)) ∧ Below u.heap.size u w'))
    (H9 : Hid (f1 = true → f3 = true → ∀ u, Below w.heap.size w u → Calls Try.prog 8 #[.agg #[.bool sa, .bool sb, .bool sc, .bool sd, .slice seo sen sec, .bool sf, .slice sgo sgn sgc, .slice sio sinn sic, .slice sjo sjn sjc], .agg #[.bool ka, .bool kb, .bool kc, .bool kd, .slice keo ken kec, .bool kf, .slice kgo kgn kgc, .slice kio kinn kic, .slice kjo kjn kjc]] u fun e w' => e = .returned (.bool b3) ∧ Below u.heap.size u w'))
    (HP : Hid (f2 = true → f3 = true → ∀ u, Below w.heap.size w u → Calls Try.prog 13 #[.agg #[.bool ta, .bool tb, .bool tc, .bool td, .slice teo ten tec, .bool tf, .slice tgo tgn tgc, .slice tio tinn tic, .slice tjo tjn tjc], .agg #[.bool ka, .bool kb, .bool kc, .bool kd, .slice keo ken kec, .bool kf, .slice kgo kgn kgc, .slice kio kinn kic, .slice kjo kjn kjc]] u fun e w' => e = .returned (.bool x) ∧ Below u.heap.size u w'))
    (HQ : Hid (f2 = true → f3 = true → ∀ u, Below w.heap.size w u → Calls Try.prog 13 #[.agg #[.bool ka, .bool kb, .bool kc, .bool kd, .slice keo ken kec, .bool kf, .slice kgo kgn kgc, .slice kio kinn kic, .slice kjo kjn kjc], .agg #[.bool ta, .bool tb, .bool tc, .bool td, .slice teo ten tec, .bool tf, .slice tgo tgn tgc, .slice tio tinn tic, .slice tjo tjn tjc]] u fun e w' => e = .returned (.bool x) ∧ Below u.heap.size u w'))
    (HR : Hid (f1 = true → f3 = true → ∀ u, Below w.heap.size w u → Calls Try.prog 13 #[.agg #[.bool sa, .bool sb, .bool sc, .bool sd, .slice seo sen sec, .bool sf, .slice sgo sgn sgc, .slice sio sinn sic, .slice sjo sjn sjc], .agg #[.bool ka, .bool kb, .bool kc, .bool kd, .slice keo ken kec, .bool kf, .slice kgo kgn kgc, .slice kio kinn kic, .slice kjo kjn kjc]] u fun e w' => e = .returned (.bool y) ∧ Below u.heap.size u w'))
    (HE : Hid (f1 = true → f2 = true → f3 = true → (b1 = true → b2 = true → b3 = true) ∧ (b1 = true → x = true → y = true))) :
    Calls Try.prog 5 #[.agg #[.bool sa, .bool sb, .bool sc, .bool sd, .slice seo sen sec, .bool sf, .slice sgo sgn sgc, .slice sio sinn sic, .slice sjo sjn sjc], .agg #[.bool ta, .bool tb, .bool tc, .bool td, .slice teo ten tec, .bool tf, .slice tgo tgn tgc, .slice tio tinn tic, .slice tjo tjn tjc], .agg #[.bool ka, .bool kb, .bool kc, .bool kd, .slice keo ken kec, .bool kf, .slice kgo kgn kgc, .slice kio kinn kic, .slice kjo kjn kjc]] w fun e w' => e = .returned (.bool true) ∧ Below w.heap.size w w' := by
  have HX0 := Hid.mk (b3x_new w #[.bool sa, .bool sb, .bool sc, .bool sd, .slice seo sen sec, .bool sf, .slice sgo sgn sgc, .slice sio sinn sic, .slice sjo sjn sjc] #[.bool ta, .bool tb, .bool tc, .bool td, .slice teo ten tec, .bool tf, .slice tgo tgn tgc, .slice tio tinn tic, .slice tjo tjn tjc] #[.bool ka, .bool kb, .bool kc, .bool kd, .slice keo ken kec, .bool kf, .slice kgo kgn kgc, .slice kio kinn kic, .slice kjo kjn kjc] 27 27 27)
  obtain ⟨w0, hw0⟩ : ∃ w0, ((w.alloc (.cells #[.bool sa, .bool sb, .bool sc, .bool sd, .slice seo sen sec, .bool sf, .slice sgo sgn sgc, .slice sio sinn sic, .slice sjo sjn sjc] 27)).alloc (.cells #[.bool ta, .bool tb, .bool tc, .bool td, .slice teo ten tec, .bool tf, .slice tgo tgn tgc, .slice tio tinn tic, .slice tjo tjn tjc] 27)).alloc (.cells #[.bool ka, .bool kb, .bool kc, .bool kd, .slice keo ken kec, .bool kf, .slice kgo kgn kgc, .slice kio kinn kic, .slice kjo kjn kjc] 27) = w0 := ⟨_, rfl⟩
  rw [hw0] at HX0
  have p0 : w0.cell? ⟨w.heap.size, 0, none⟩ = _ := cell_of_row _ _ 0 _ _ _ HX0.out.r0
  have p1 : w0.cell? ⟨w.heap.size, 1, none⟩ = _ := cell_of_row _ _ 1 _ _ _ HX0.out.r0
  have p2 : w0.cell? ⟨w.heap.size, 2, none⟩ = _ := cell_of_row _ _ 2 _ _ _ HX0.out.r0
  have p3 : w0.cell? ⟨w.heap.size, 3, none⟩ = _ := cell_of_row _ _ 3 _ _ _ HX0.out.r0
  have p4 : w0.cell? ⟨w.heap.size, 4, none⟩ = _ := cell_of_row _ _ 4 _ _ _ HX0.out.r0
  have p5 : w0.cell? ⟨w.heap.size, 5, none⟩ = _ := cell_of_row _ _ 5 _ _ _ HX0.out.r0
  have p6 : w0.cell? ⟨w.heap.size, 6, none⟩ = _ := cell_of_row _ _ 6 _ _ _ HX0.out.r0
  have p7 : w0.cell? ⟨w.heap.size, 7, none⟩ = _ := cell_of_row _ _ 7 _ _ _ HX0.out.r0
  have p8 : w0.cell? ⟨w.heap.size, 8, none⟩ = _ := cell_of_row _ _ 8 _ _ _ HX0.out.r0
  have q0 : w0.cell? ⟨w.heap.size + 1, 0, none⟩ = _ := cell_of_row _ _ 0 _ _ _ HX0.out.r1
  have q1 : w0.cell? ⟨w.heap.size + 1, 1, none⟩ = _ := cell_of_row _ _ 1 _ _ _ HX0.out.r1
  have q2 : w0.cell? ⟨w.heap.size + 1, 2, none⟩ = _ := cell_of_row _ _ 2 _ _ _ HX0.out.r1
  have q3 : w0.cell? ⟨w.heap.size + 1, 3, none⟩ = _ := cell_of_row _ _ 3 _ _ _ HX0.out.r1
  have q4 : w0.cell? ⟨w.heap.size + 1, 4, none⟩ = _ := cell_of_row _ _ 4 _ _ _ HX0.out.r1
  have q5 : w0.cell? ⟨w.heap.size + 1, 5, none⟩ = _ := cell_of_row _ _ 5 _ _ _ HX0.out.r1
  have q6 : w0.cell? ⟨w.heap.size + 1, 6, none⟩ = _ := cell_of_row _ _ 6 _ _ _ HX0.out.r1
  have q7 : w0.cell? ⟨w.heap.size + 1, 7, none⟩ = _ := cell_of_row _ _ 7 _ _ _ HX0.out.r1
  have q8 : w0.cell? ⟨w.heap.size + 1, 8, none⟩ = _ := cell_of_row _ _ 8 _ _ _ HX0.out.r1
  have r0 : w0.cell? ⟨w.heap.size + 1 + 1, 0, none⟩ = _ := cell_of_row _ _ 0 _ _ _ HX0.out.r2
  have r1 : w0.cell? ⟨w.heap.size + 1 + 1, 1, none⟩ = _ := cell_of_row _ _ 1 _ _ _ HX0.out.r2
  have r2 : w0.cell? ⟨w.heap.size + 1 + 1, 2, none⟩ = _ := cell_of_row _ _ 2 _ _ _ HX0.out.r2
  have r3 : w0.cell? ⟨w.heap.size + 1 + 1, 3, none⟩ = _ := cell_of_row _ _ 3 _ _ _ HX0.out.r2
  have r4 : w0.cell? ⟨w.heap.size + 1 + 1, 4, none⟩ = _ := cell_of_row _ _ 4 _ _ _ HX0.out.r2
  have r5 : w0.cell? ⟨w.heap.size + 1 + 1, 5, none⟩ = _ := cell_of_row _ _ 5 _ _ _ HX0.out.r2
  have r6 : w0.cell? ⟨w.heap.size + 1 + 1, 6, none⟩ = _ := cell_of_row _ _ 6 _ _ _ HX0.out.r2
  have r7 : w0.cell? ⟨w.heap.size + 1 + 1, 7, none⟩ = _ := cell_of_row _ _ 7 _ _ _ HX0.out.r2
  have r8 : w0.cell? ⟨w.heap.size + 1 + 1, 8, none⟩ = _ := cell_of_row _ _ 8 _ _ _ HX0.out.r2
  go_enter Try.func5, Try.ntmps5
  go_wp2_with fail
  refine (H0.out _).mono ?_
  rintro e w1 ⟨rfl, hq⟩
  have HX1 := Hid.mk (HX0.out.keep hq)
  clear hq hw0
  clear p0 p1 p2 p3 p4 p5 p6 p7 p8 q0 q1 q2 q3 q4 q5 q6 q7 q8 r0 r1 r2 r3 r4 r5 r6 r7 r8
  have p0 : w1.cell? ⟨w.heap.size, 0, none⟩ = _ := cell_of_row _ _ 0 _ _ _ HX1.out.r0
  have p1 : w1.cell? ⟨w.heap.size, 1, none⟩ = _ := cell_of_row _ _ 1 _ _ _ HX1.out.r0
  have p2 : w1.cell? ⟨w.heap.size, 2, none⟩ = _ := cell_of_row _ _ 2 _ _ _ HX1.out.r0
  have p3 : w1.cell? ⟨w.heap.size, 3, none⟩ = _ := cell_of_row _ _ 3 _ _ _ HX1.out.r0
  have p4 : w1.cell? ⟨w.heap.size, 4, none⟩ = _ := cell_of_row _ _ 4 _ _ _ HX1.out.r0
  have p5 : w1.cell? ⟨w.heap.size, 5, none⟩ = _ := cell_of_row _ _ 5 _ _ _ HX1.out.r0
  have p6 : w1.cell? ⟨w.heap.size, 6, none⟩ = _ := cell_of_row _ _ 6 _ _ _ HX1.out.r0
  have p7 : w1.cell? ⟨w.heap.size, 7, none⟩ = _ := cell_of_row _ _ 7 _ _ _ HX1.out.r0
  have p8 : w1.cell? ⟨w.heap.size, 8, none⟩ = _ := cell_of_row _ _ 8 _ _ _ HX1.out.r0
  have q0 : w1.cell? ⟨w.heap.size + 1, 0, none⟩ = _ := cell_of_row _ _ 0 _ _ _ HX1.out.r1
  have q1 : w1.cell? ⟨w.heap.size + 1, 1, none⟩ = _ := cell_of_row _ _ 1 _ _ _ HX1.out.r1
  have q2 : w1.cell? ⟨w.heap.size + 1, 2, none⟩ = _ := cell_of_row _ _ 2 _ _ _ HX1.out.r1
  have q3 : w1.cell? ⟨w.heap.size + 1, 3, none⟩ = _ := cell_of_row _ _ 3 _ _ _ HX1.out.r1
  have q4 : w1.cell? ⟨w.heap.size + 1, 4, none⟩ = _ := cell_of_row _ _ 4 _ _ _ HX1.out.r1
  have q5 : w1.cell? ⟨w.heap.size + 1, 5, none⟩ = _ := cell_of_row _ _ 5 _ _ _ HX1.out.r1
  have q6 : w1.cell? ⟨w.heap.size + 1, 6, none⟩ = _ := cell_of_row _ _ 6 _ _ _ HX1.out.r1
  have q7 : w1.cell? ⟨w.heap.size + 1, 7, none⟩ = _ := cell_of_row _ _ 7 _ _ _ HX1.out.r1
  have q8 : w1.cell? ⟨w.heap.size + 1, 8, none⟩ = _ := cell_of_row _ _ 8 _ _ _ HX1.out.r1
  have r0 : w1.cell? ⟨w.heap.size + 1 + 1, 0, none⟩ = _ := cell_of_row _ _ 0 _ _ _ HX1.out.r2
  have r1 : w1.cell? ⟨w.heap.size + 1 + 1, 1, none⟩ = _ := cell_of_row _ _ 1 _ _ _ HX1.out.r2
  have r2 : w1.cell? ⟨w.heap.size + 1 + 1, 2, none⟩ = _ := cell_of_row _ _ 2 _ _ _ HX1.out.r2
  have r3 : w1.cell? ⟨w.heap.size + 1 + 1, 3, none⟩ = _ := cell_of_row _ _ 3 _ _ _ HX1.out.r2
  have r4 : w1.cell? ⟨w.heap.size + 1 + 1, 4, none⟩ = _ := cell_of_row _ _ 4 _ _ _ HX1.out.r2
  have r5 : w1.cell? ⟨w.heap.size + 1 + 1, 5, none⟩ = _ := cell_of_row _ _ 5 _ _ _ HX1.out.r2
  have r6 : w1.cell? ⟨w.heap.size + 1 + 1, 6, none⟩ = _ := cell_of_row _ _ 6 _ _ _ HX1.out.r2
  have r7 : w1.cell? ⟨w.heap.size + 1 + 1, 7, none⟩ = _ := cell_of_row _ _ 7 _ _ _ HX1.out.r2
  have r8 : w1.cell? ⟨w.heap.size + 1 + 1, 8, none⟩ = _ := cell_of_row _ _ 8 _ _ _ HX1.out.r2
  go_wp2_with fail
  refine (H1.out _ HX1.out.below).mono ?_
  rintro e w2 ⟨rfl, hq⟩
  have HX2 := Hid.mk (HX1.out.keep hq)
  clear hq
  clear p0 p1 p2 p3 p4 p5 p6 p7 p8 q0 q1 q2 q3 q4 q5 q6 q7 q8 r0 r1 r2 r3 r4 r5 r6 r7 r8
  have p0 : w2.cell? ⟨w.heap.size, 0, none⟩ = _ := cell_of_row _ _ 0 _ _ _ HX2.out.r0
  have p1 : w2.cell? ⟨w.heap.size, 1, none⟩ = _ := cell_of_row _ _ 1 _ _ _ HX2.out.r0
  have p2 : w2.cell? ⟨w.heap.size, 2, none⟩ = _ := cell_of_row _ _ 2 _ _ _ HX2.out.r0
  have p3 : w2.cell? ⟨w.heap.size, 3, none⟩ = _ := cell_of_row _ _ 3 _ _ _ HX2.out.r0
  have p4 : w2.cell? ⟨w.heap.size, 4, none⟩ = _ := cell_of_row _ _ 4 _ _ _ HX2.out.r0
  have p5 : w2.cell? ⟨w.heap.size, 5, none⟩ = _ := cell_of_row _ _ 5 _ _ _ HX2.out.r0
  have p6 : w2.cell? ⟨w.heap.size, 6, none⟩ = _ := cell_of_row _ _ 6 _ _ _ HX2.out.r0
  have p7 : w2.cell? ⟨w.heap.size, 7, none⟩ = _ := cell_of_row _ _ 7 _ _ _ HX2.out.r0
  have p8 : w2.cell? ⟨w.heap.size, 8, none⟩ = _ := cell_of_row _ _ 8 _ _ _ HX2.out.r0
  have q0 : w2.cell? ⟨w.heap.size + 1, 0, none⟩ = _ := cell_of_row _ _ 0 _ _ _ HX2.out.r1
  have q1 : w2.cell? ⟨w.heap.size + 1, 1, none⟩ = _ := cell_of_row _ _ 1 _ _ _ HX2.out.r1
  have q2 : w2.cell? ⟨w.heap.size + 1, 2, none⟩ = _ := cell_of_row _ _ 2 _ _ _ HX2.out.r1
  have q3 : w2.cell? ⟨w.heap.size + 1, 3, none⟩ = _ := cell_of_row _ _ 3 _ _ _ HX2.out.r1
  have q4 : w2.cell? ⟨w.heap.size + 1, 4, none⟩ = _ := cell_of_row _ _ 4 _ _ _ HX2.out.r1
  have q5 : w2.cell? ⟨w.heap.size + 1, 5, none⟩ = _ := cell_of_row _ _ 5 _ _ _ HX2.out.r1
  have q6 : w2.cell? ⟨w.heap.size + 1, 6, none⟩ = _ := cell_of_row _ _ 6 _ _ _ HX2.out.r1
  have q7 : w2.cell? ⟨w.heap.size + 1, 7, none⟩ = _ := cell_of_row _ _ 7 _ _ _ HX2.out.r1
  have q8 : w2.cell? ⟨w.heap.size + 1, 8, none⟩ = _ := cell_of_row _ _ 8 _ _ _ HX2.out.r1
  have r0 : w2.cell? ⟨w.heap.size + 1 + 1, 0, none⟩ = _ := cell_of_row _ _ 0 _ _ _ HX2.out.r2
  have r1 : w2.cell? ⟨w.heap.size + 1 + 1, 1, none⟩ = _ := cell_of_row _ _ 1 _ _ _ HX2.out.r2
  have r2 : w2.cell? ⟨w.heap.size + 1 + 1, 2, none⟩ = _ := cell_of_row _ _ 2 _ _ _ HX2.out.r2
  have r3 : w2.cell? ⟨w.heap.size + 1 + 1, 3, none⟩ = _ := cell_of_row _ _ 3 _ _ _ HX2.out.r2
  have r4 : w2.cell? ⟨w.heap.size + 1 + 1, 4, none⟩ = _ := cell_of_row _ _ 4 _ _ _ HX2.out.r2
  have r5 : w2.cell? ⟨w.heap.size + 1 + 1, 5, none⟩ = _ := cell_of_row _ _ 5 _ _ _ HX2.out.r2
  have r6 : w2.cell? ⟨w.heap.size + 1 + 1, 6, none⟩ = _ := cell_of_row _ _ 6 _ _ _ HX2.out.r2
  have r7 : w2.cell? ⟨w.heap.size + 1 + 1, 7, none⟩ = _ := cell_of_row _ _ 7 _ _ _ HX2.out.r2
  have r8 : w2.cell? ⟨w.heap.size + 1 + 1, 8, none⟩ = _ := cell_of_row _ _ 8 _ _ _ HX2.out.r2
  cases f1 with
  | true =>
    go_wp2_with fail
    refine (H2.out _ HX2.out.below).mono ?_
    rintro e w3 ⟨rfl, hq⟩
    have HX3 := Hid.mk (HX2.out.keep hq)
    clear hq
    clear p0 p1 p2 p3 p4 p5 p6 p7 p8 q0 q1 q2 q3 q4 q5 q6 q7 q8 r0 r1 r2 r3 r4 r5 r6 r7 r8
    have p0 : w3.cell? ⟨w.heap.size, 0, none⟩ = _ := cell_of_row _ _ 0 _ _ _ HX3.out.r0
    have p1 : w3.cell? ⟨w.heap.size, 1, none⟩ = _ := cell_of_row _ _ 1 _ _ _ HX3.out.r0
    have p2 : w3.cell? ⟨w.heap.size, 2, none⟩ = _ := cell_of_row _ _ 2 _ _ _ HX3.out.r0
    have p3 : w3.cell? ⟨w.heap.size, 3, none⟩ = _ := cell_of_row _ _ 3 _ _ _ HX3.out.r0
    have p4 : w3.cell? ⟨w.heap.size, 4, none⟩ = _ := cell_of_row _ _ 4 _ _ _ HX3.out.r0
    have p5 : w3.cell? ⟨w.heap.size, 5, none⟩ = _ := cell_of_row _ _ 5 _ _ _ HX3.out.r0
    have p6 : w3.cell? ⟨w.heap.size, 6, none⟩ = _ := cell_of_row _ _ 6 _ _ _ HX3.out.r0
    have p7 : w3.cell? ⟨w.heap.size, 7, none⟩ = _ := cell_of_row _ _ 7 _ _ _ HX3.out.r0
    have p8 : w3.cell? ⟨w.heap.size, 8, none⟩ = _ := cell_of_row _ _ 8 _ _ _ HX3.out.r0
    have q0 : w3.cell? ⟨w.heap.size + 1, 0, none⟩ = _ := cell_of_row _ _ 0 _ _ _ HX3.out.r1
    have q1 : w3.cell? ⟨w.heap.size + 1, 1, none⟩ = _ := cell_of_row _ _ 1 _ _ _ HX3.out.r1
    have q2 : w3.cell? ⟨w.heap.size + 1, 2, none⟩ = _ := cell_of_row _ _ 2 _ _ _ HX3.out.r1
    have q3 : w3.cell? ⟨w.heap.size + 1, 3, none⟩ = _ := cell_of_row _ _ 3 _ _ _ HX3.out.r1
    have q4 : w3.cell? ⟨w.heap.size + 1, 4, none⟩ = _ := cell_of_row _ _ 4 _ _ _ HX3.out.r1
    have q5 : w3.cell? ⟨w.heap.size + 1, 5, none⟩ = _ := cell_of_row _ _ 5 _ _ _ HX3.out.r1
    have q6 : w3.cell? ⟨w.heap.size + 1, 6, none⟩ = _ := cell_of_row _ _ 6 _ _ _ HX3.out.r1
    have q7 : w3.cell? ⟨w.heap.size + 1, 7, none⟩ = _ := cell_of_row _ _ 7 _ _ _ HX3.out.r1
    have q8 : w3.cell? ⟨w.heap.size + 1, 8, none⟩ = _ := cell_of_row _ _ 8 _ _ _ HX3.out.r1
    have r0 : w3.cell? ⟨w.heap.size + 1 + 1, 0, none⟩ = _ := cell_of_row _ _ 0 _ _ _ HX3.out.r2
    have r1 : w3.cell? ⟨w.heap.size + 1 + 1, 1, none⟩ = _ := cell_of_row _ _ 1 _ _ _ HX3.out.r2
    have r2 : w3.cell? ⟨w.heap.size + 1 + 1, 2, none⟩ = _ := cell_of_row _ _ 2 _ _ _ HX3.out.r2
    have r3 : w3.cell? ⟨w.heap.size + 1 + 1, 3, none⟩ = _ := cell_of_row _ _ 3 _ _ _ HX3.out.r2
    have r4 : w3.cell? ⟨w.heap.size + 1 + 1, 4, none⟩ = _ := cell_of_row _ _ 4 _ _ _ HX3.out.r2
    have r5 : w3.cell? ⟨w.heap.size + 1 + 1, 5, none⟩ = _ := cell_of_row _ _ 5 _ _ _ HX3.out.r2
    have r6 : w3.cell? ⟨w.heap.size + 1 + 1, 6, none⟩ = _ := cell_of_row _ _ 6 _ _ _ HX3.out.r2
    have r7 : w3.cell? ⟨w.heap.size + 1 + 1, 7, none⟩ = _ := cell_of_row _ _ 7 _ _ _ HX3.out.r2
    have r8 : w3.cell? ⟨w.heap.size + 1 + 1, 8, none⟩ = _ := cell_of_row _ _ 8 _ _ _ HX3.out.r2
    cases f2 with
    | true =>
      go_wp2_with fail
      refine (H3.out _ HX3.out.below).mono ?_
      rintro e w4 ⟨rfl, hq⟩
      have HX4 := Hid.mk (HX3.out.keep hq)
      clear hq
      clear p0 p1 p2 p3 p4 p5 p6 p7 p8 q0 q1 q2 q3 q4 q5 q6 q7 q8 r0 r1 r2 r3 r4 r5 r6 r7 r8
      have p0 : w4.cell? ⟨w.heap.size, 0, none⟩ = _ := cell_of_row _ _ 0 _ _ _ HX4.out.r0
      have p1 : w4.cell? ⟨w.heap.size, 1, none⟩ = _ := cell_of_row _ _ 1 _ _ _ HX4.out.r0
      have p2 : w4.cell? ⟨w.heap.size, 2, none⟩ = _ := cell_of_row _ _ 2 _ _ _ HX4.out.r0
      have p3 : w4.cell? ⟨w.heap.size, 3, none⟩ = _ := cell_of_row _ _ 3 _ _ _ HX4.out.r0
      have p4 : w4.cell? ⟨w.heap.size, 4, none⟩ = _ := cell_of_row _ _ 4 _ _ _ HX4.out.r0
      have p5 : w4.cell? ⟨w.heap.size, 5, none⟩ = _ := cell_of_row _ _ 5 _ _ _ HX4.out.r0
      have p6 : w4.cell? ⟨w.heap.size, 6, none⟩ = _ := cell_of_row _ _ 6 _ _ _ HX4.out.r0
      have p7 : w4.cell? ⟨w.heap.size, 7, none⟩ = _ := cell_of_row _ _ 7 _ _ _ HX4.out.r0
      have p8 : w4.cell? ⟨w.heap.size, 8, none⟩ = _ := cell_of_row _ _ 8 _ _ _ HX4.out.r0
      have q0 : w4.cell? ⟨w.heap.size + 1, 0, none⟩ = _ := cell_of_row _ _ 0 _ _ _ HX4.out.r1
      have q1 : w4.cell? ⟨w.heap.size + 1, 1, none⟩ = _ := cell_of_row _ _ 1 _ _ _ HX4.out.r1
      have q2 : w4.cell? ⟨w.heap.size + 1, 2, none⟩ = _ := cell_of_row _ _ 2 _ _ _ HX4.out.r1
      have q3 : w4.cell? ⟨w.heap.size + 1, 3, none⟩ = _ := cell_of_row _ _ 3 _ _ _ HX4.out.r1
      have q4 : w4.cell? ⟨w.heap.size + 1, 4, none⟩ = _ := cell_of_row _ _ 4 _ _ _ HX4.out.r1
      have q5 : w4.cell? ⟨w.heap.size + 1, 5, none⟩ = _ := cell_of_row _ _ 5 _ _ _ HX4.out.r1
      have q6 : w4.cell? ⟨w.heap.size + 1, 6, none⟩ = _ := cell_of_row _ _ 6 _ _ _ HX4.out.r1
      have q7 : w4.cell? ⟨w.heap.size + 1, 7, none⟩ = _ := cell_of_row _ _ 7 _ _ _ HX4.out.r1
      have q8 : w4.cell? ⟨w.heap.size + 1, 8, none⟩ = _ := cell_of_row _ _ 8 _ _ _ HX4.out.r1
      have r0 : w4.cell? ⟨w.heap.size + 1 + 1, 0, none⟩ = _ := cell_of_row _ _ 0 _ _ _ HX4.out.r2
      have r1 : w4.cell? ⟨w.heap.size + 1 + 1, 1, none⟩ = _ := cell_of_row _ _ 1 _ _ _ HX4.out.r2
      have r2 : w4.cell? ⟨w.heap.size + 1 + 1, 2, none⟩ = _ := cell_of_row _ _ 2 _ _ _ HX4.out.r2
      have r3 : w4.cell? ⟨w.heap.size + 1 + 1, 3, none⟩ = _ := cell_of_row _ _ 3 _ _ _ HX4.out.r2
      have r4 : w4.cell? ⟨w.heap.size + 1 + 1, 4, none⟩ = _ := cell_of_row _ _ 4 _ _ _ HX4.out.r2
      have r5 : w4.cell? ⟨w.heap.size + 1 + 1, 5, none⟩ = _ := cell_of_row _ _ 5 _ _ _ HX4.out.r2
      have r6 : w4.cell? ⟨w.heap.size + 1 + 1, 6, none⟩ = _ := cell_of_row _ _ 6 _ _ _ HX4.out.r2
      have r7 : w4.cell? ⟨w.heap.size + 1 + 1, 7, none⟩ = _ := cell_of_row _ _ 7 _ _ _ HX4.out.r2
      have r8 : w4.cell? ⟨w.heap.size + 1 + 1, 8, none⟩ = _ := cell_of_row _ _ 8 _ _ _ HX4.out.r2
      cases f3 with
      | true =>
        have Q0 := fun d os => cell_regrown p0 d os
        have Q1 := fun d os => cell_regrown p1 d os
        have Q2 := fun d os => cell_regrown p2 d os
        have Q3 := fun d os => cell_regrown p3 d os
        have Q4 := fun d os => cell_regrown p4 d os
        have Q5 := fun d os => cell_regrown p5 d os
        have Q6 := fun d os => cell_regrown p6 d os
        have Q7 := fun d os => cell_regrown p7 d os
        have Q8 := fun d os => cell_regrown p8 d os
        have K4 := Hid.mk (fun (d : Nat) (os : Array Obj) => H4.out (by first | trivial | rfl) (grow (redrawn w4 d) os) (HX4.out.below.trans ((below_regrown w4 d os).mono HX4.out.below.size)))
        have K5 := Hid.mk (fun (d : Nat) (os : Array Obj) => H5.out (by first | trivial | rfl) (grow (redrawn w4 d) os) (HX4.out.below.trans ((below_regrown w4 d os).mono HX4.out.below.size)))
        have K6 := Hid.mk (fun (d : Nat) (os : Array Obj) => H6.out (grow (redrawn w4 d) os) (HX4.out.below.trans ((below_regrown w4 d os).mono HX4.out.below.size)))
        go_wp2_with fail
        refine wp_region_quiet_below (by kernel_rfl) (by kernel_rfl) ?_
        repeat (go_big_quiet_step (first | exact Calls.regrown_of (K4.out _ _) | exact Calls.regrown_of (K5.out _ _) | exact Calls.regrown_of (K6.out _ _)))
        refine wpQuiet_nil ?_
        intro w5 hw'
        have hb9 : Below w4.heap.size w4 w5 := by
          obtain ⟨⟨dq, osq⟩, rfl⟩ := hw'
          exact below_regrown w4 dq osq
        have HX5 := Hid.mk (HX4.out.keep hb9)
        clear hw' hb9 K4 K5 K6 Q0 Q1 Q2 Q3 Q4 Q5 Q6 Q7 Q8
        clear p0 p1 p2 p3 p4 p5 p6 p7 p8 q0 q1 q2 q3 q4 q5 q6 q7 q8 r0 r1 r2 r3 r4 r5 r6 r7 r8
        have p0 : w5.cell? ⟨w.heap.size, 0, none⟩ = _ := cell_of_row _ _ 0 _ _ _ HX5.out.r0
        have p1 : w5.cell? ⟨w.heap.size, 1, none⟩ = _ := cell_of_row _ _ 1 _ _ _ HX5.out.r0
        have p2 : w5.cell? ⟨w.heap.size, 2, none⟩ = _ := cell_of_row _ _ 2 _ _ _ HX5.out.r0
        have p3 : w5.cell? ⟨w.heap.size, 3, none⟩ = _ := cell_of_row _ _ 3 _ _ _ HX5.out.r0
        have p4 : w5.cell? ⟨w.heap.size, 4, none⟩ = _ := cell_of_row _ _ 4 _ _ _ HX5.out.r0
        have p5 : w5.cell? ⟨w.heap.size, 5, none⟩ = _ := cell_of_row _ _ 5 _ _ _ HX5.out.r0
        have p6 : w5.cell? ⟨w.heap.size, 6, none⟩ = _ := cell_of_row _ _ 6 _ _ _ HX5.out.r0
        have p7 : w5.cell? ⟨w.heap.size, 7, none⟩ = _ := cell_of_row _ _ 7 _ _ _ HX5.out.r0
        have p8 : w5.cell? ⟨w.heap.size, 8, none⟩ = _ := cell_of_row _ _ 8 _ _ _ HX5.out.r0
        have q0 : w5.cell? ⟨w.heap.size + 1, 0, none⟩ = _ := cell_of_row _ _ 0 _ _ _ HX5.out.r1
        have q1 : w5.cell? ⟨w.heap.size + 1, 1, none⟩ = _ := cell_of_row _ _ 1 _ _ _ HX5.out.r1
        have q2 : w5.cell? ⟨w.heap.size + 1, 2, none⟩ = _ := cell_of_row _ _ 2 _ _ _ HX5.out.r1
        have q3 : w5.cell? ⟨w.heap.size + 1, 3, none⟩ = _ := cell_of_row _ _ 3 _ _ _ HX5.out.r1
        have q4 : w5.cell? ⟨w.heap.size + 1, 4, none⟩ = _ := cell_of_row _ _ 4 _ _ _ HX5.out.r1
        have q5 : w5.cell? ⟨w.heap.size + 1, 5, none⟩ = _ := cell_of_row _ _ 5 _ _ _ HX5.out.r1
        have q6 : w5.cell? ⟨w.heap.size + 1, 6, none⟩ = _ := cell_of_row _ _ 6 _ _ _ HX5.out.r1
        have q7 : w5.cell? ⟨w.heap.size + 1, 7, none⟩ = _ := cell_of_row _ _ 7 _ _ _ HX5.out.r1
        have q8 : w5.cell? ⟨w.heap.size + 1, 8, none⟩ = _ := cell_of_row _ _ 8 _ _ _ HX5.out.r1
        have r0 : w5.cell? ⟨w.heap.size + 1 + 1, 0, none⟩ = _ := cell_of_row _ _ 0 _ _ _ HX5.out.r2
        have r1 : w5.cell? ⟨w.heap.size + 1 + 1, 1, none⟩ = _ := cell_of_row _ _ 1 _ _ _ HX5.out.r2
        have r2 : w5.cell? ⟨w.heap.size + 1 + 1, 2, none⟩ = _ := cell_of_row _ _ 2 _ _ _ HX5.out.r2
        have r3 : w5.cell? ⟨w.heap.size + 1 + 1, 3, none⟩ = _ := cell_of_row _ _ 3 _ _ _ HX5.out.r2
        have r4 : w5.cell? ⟨w.heap.size + 1 + 1, 4, none⟩ = _ := cell_of_row _ _ 4 _ _ _ HX5.out.r2
        have r5 : w5.cell? ⟨w.heap.size + 1 + 1, 5, none⟩ = _ := cell_of_row _ _ 5 _ _ _ HX5.out.r2
        have r6 : w5.cell? ⟨w.heap.size + 1 + 1, 6, none⟩ = _ := cell_of_row _ _ 6 _ _ _ HX5.out.r2
        have r7 : w5.cell? ⟨w.heap.size + 1 + 1, 7, none⟩ = _ := cell_of_row _ _ 7 _ _ _ HX5.out.r2
        have r8 : w5.cell? ⟨w.heap.size + 1 + 1, 8, none⟩ = _ := cell_of_row _ _ 8 _ _ _ HX5.out.r2
        have HEE := Hid.mk (HE.out (by first | trivial | rfl) (by first | trivial | rfl) (by first | trivial | rfl))
        go_wp2_with fail
        refine (H7.out (by first | trivial | rfl) (by first | trivial | rfl) _ HX5.out.below).mono ?_
        rintro e w6 ⟨rfl, hq⟩
        have HX6 := Hid.mk (HX5.out.keep hq)
        clear hq
        clear p0 p1 p2 p3 p4 p5 p6 p7 p8 q0 q1 q2 q3 q4 q5 q6 q7 q8 r0 r1 r2 r3 r4 r5 r6 r7 r8
        have p0 : w6.cell? ⟨w.heap.size, 0, none⟩ = _ := cell_of_row _ _ 0 _ _ _ HX6.out.r0
        have p1 : w6.cell? ⟨w.heap.size, 1, none⟩ = _ := cell_of_row _ _ 1 _ _ _ HX6.out.r0
        have p2 : w6.cell? ⟨w.heap.size, 2, none⟩ = _ := cell_of_row _ _ 2 _ _ _ HX6.out.r0
        have p3 : w6.cell? ⟨w.heap.size, 3, none⟩ = _ := cell_of_row _ _ 3 _ _ _ HX6.out.r0
        have p4 : w6.cell? ⟨w.heap.size, 4, none⟩ = _ := cell_of_row _ _ 4 _ _ _ HX6.out.r0
        have p5 : w6.cell? ⟨w.heap.size, 5, none⟩ = _ := cell_of_row _ _ 5 _ _ _ HX6.out.r0
        have p6 : w6.cell? ⟨w.heap.size, 6, none⟩ = _ := cell_of_row _ _ 6 _ _ _ HX6.out.r0
        have p7 : w6.cell? ⟨w.heap.size, 7, none⟩ = _ := cell_of_row _ _ 7 _ _ _ HX6.out.r0
        have p8 : w6.cell? ⟨w.heap.size, 8, none⟩ = _ := cell_of_row _ _ 8 _ _ _ HX6.out.r0
        have q0 : w6.cell? ⟨w.heap.size + 1, 0, none⟩ = _ := cell_of_row _ _ 0 _ _ _ HX6.out.r1
        have q1 : w6.cell? ⟨w.heap.size + 1, 1, none⟩ = _ := cell_of_row _ _ 1 _ _ _ HX6.out.r1
        have q2 : w6.cell? ⟨w.heap.size + 1, 2, none⟩ = _ := cell_of_row _ _ 2 _ _ _ HX6.out.r1
        have q3 : w6.cell? ⟨w.heap.size + 1, 3, none⟩ = _ := cell_of_row _ _ 3 _ _ _ HX6.out.r1
        have q4 : w6.cell? ⟨w.heap.size + 1, 4, none⟩ = _ := cell_of_row _ _ 4 _ _ _ HX6.out.r1
        have q5 : w6.cell? ⟨w.heap.size + 1, 5, none⟩ = _ := cell_of_row _ _ 5 _ _ _ HX6.out.r1
        have q6 : w6.cell? ⟨w.heap.size + 1, 6, none⟩ = _ := cell_of_row _ _ 6 _ _ _ HX6.out.r1
        have q7 : w6.cell? ⟨w.heap.size + 1, 7, none⟩ = _ := cell_of_row _ _ 7 _ _ _ HX6.out.r1
        have q8 : w6.cell? ⟨w.heap.size + 1, 8, none⟩ = _ := cell_of_row _ _ 8 _ _ _ HX6.out.r1
        have r0 : w6.cell? ⟨w.heap.size + 1 + 1, 0, none⟩ = _ := cell_of_row _ _ 0 _ _ _ HX6.out.r2
        have r1 : w6.cell? ⟨w.heap.size + 1 + 1, 1, none⟩ = _ := cell_of_row _ _ 1 _ _ _ HX6.out.r2
        have r2 : w6.cell? ⟨w.heap.size + 1 + 1, 2, none⟩ = _ := cell_of_row _ _ 2 _ _ _ HX6.out.r2
        have r3 : w6.cell? ⟨w.heap.size + 1 + 1, 3, none⟩ = _ := cell_of_row _ _ 3 _ _ _ HX6.out.r2
        have r4 : w6.cell? ⟨w.heap.size + 1 + 1, 4, none⟩ = _ := cell_of_row _ _ 4 _ _ _ HX6.out.r2
        have r5 : w6.cell? ⟨w.heap.size + 1 + 1, 5, none⟩ = _ := cell_of_row _ _ 5 _ _ _ HX6.out.r2
        have r6 : w6.cell? ⟨w.heap.size + 1 + 1, 6, none⟩ = _ := cell_of_row _ _ 6 _ _ _ HX6.out.r2
        have r7 : w6.cell? ⟨w.heap.size + 1 + 1, 7, none⟩ = _ := cell_of_row _ _ 7 _ _ _ HX6.out.r2
        have r8 : w6.cell? ⟨w.heap.size + 1 + 1, 8, none⟩ = _ := cell_of_row _ _ 8 _ _ _ HX6.out.r2
        go_wp2_with fail
        refine (H8.out (by first | trivial | rfl) (by first | trivial | rfl) _ HX6.out.below).mono ?_
        rintro e w7 ⟨rfl, hq⟩
        have HX7 := Hid.mk (HX6.out.keep hq)
        clear hq
        clear p0 p1 p2 p3 p4 p5 p6 p7 p8 q0 q1 q2 q3 q4 q5 q6 q7 q8 r0 r1 r2 r3 r4 r5 r6 r7 r8
        have p0 : w7.cell? ⟨w.heap.size, 0, none⟩ = _ := cell_of_row _ _ 0 _ _ _ HX7.out.r0
        have p1 : w7.cell? ⟨w.heap.size, 1, none⟩ = _ := cell_of_row _ _ 1 _ _ _ HX7.out.r0
        have p2 : w7.cell? ⟨w.heap.size, 2, none⟩ = _ := cell_of_row _ _ 2 _ _ _ HX7.out.r0
        have p3 : w7.cell? ⟨w.heap.size, 3, none⟩ = _ := cell_of_row _ _ 3 _ _ _ HX7.out.r0
        have p4 : w7.cell? ⟨w.heap.size, 4, none⟩ = _ := cell_of_row _ _ 4 _ _ _ HX7.out.r0
        have p5 : w7.cell? ⟨w.heap.size, 5, none⟩ = _ := cell_of_row _ _ 5 _ _ _ HX7.out.r0
        have p6 : w7.cell? ⟨w.heap.size, 6, none⟩ = _ := cell_of_row _ _ 6 _ _ _ HX7.out.r0
        have p7 : w7.cell? ⟨w.heap.size, 7, none⟩ = _ := cell_of_row _ _ 7 _ _ _ HX7.out.r0
        have p8 : w7.cell? ⟨w.heap.size, 8, none⟩ = _ := cell_of_row _ _ 8 _ _ _ HX7.out.r0
        have q0 : w7.cell? ⟨w.heap.size + 1, 0, none⟩ = _ := cell_of_row _ _ 0 _ _ _ HX7.out.r1
        have q1 : w7.cell? ⟨w.heap.size + 1, 1, none⟩ = _ := cell_of_row _ _ 1 _ _ _ HX7.out.r1
        have q2 : w7.cell? ⟨w.heap.size + 1, 2, none⟩ = _ := cell_of_row _ _ 2 _ _ _ HX7.out.r1
        have q3 : w7.cell? ⟨w.heap.size + 1, 3, none⟩ = _ := cell_of_row _ _ 3 _ _ _ HX7.out.r1
        have q4 : w7.cell? ⟨w.heap.size + 1, 4, none⟩ = _ := cell_of_row _ _ 4 _ _ _ HX7.out.r1
        have q5 : w7.cell? ⟨w.heap.size + 1, 5, none⟩ = _ := cell_of_row _ _ 5 _ _ _ HX7.out.r1
        have q6 : w7.cell? ⟨w.heap.size + 1, 6, none⟩ = _ := cell_of_row _ _ 6 _ _ _ HX7.out.r1
        have q7 : w7.cell? ⟨w.heap.size + 1, 7, none⟩ = _ := cell_of_row _ _ 7 _ _ _ HX7.out.r1
        have q8 : w7.cell? ⟨w.heap.size + 1, 8, none⟩ = _ := cell_of_row _ _ 8 _ _ _ HX7.out.r1
        have r0 : w7.cell? ⟨w.heap.size + 1 + 1, 0, none⟩ = _ := cell_of_row _ _ 0 _ _ _ HX7.out.r2
        have r1 : w7.cell? ⟨w.heap.size + 1 + 1, 1, none⟩ = _ := cell_of_row _ _ 1 _ _ _ HX7.out.r2
        have r2 : w7.cell? ⟨w.heap.size + 1 + 1, 2, none⟩ = _ := cell_of_row _ _ 2 _ _ _ HX7.out.r2
        have r3 : w7.cell? ⟨w.heap.size + 1 + 1, 3, none⟩ = _ := cell_of_row _ _ 3 _ _ _ HX7.out.r2
        have r4 : w7.cell? ⟨w.heap.size + 1 + 1, 4, none⟩ = _ := cell_of_row _ _ 4 _ _ _ HX7.out.r2
        have r5 : w7.cell? ⟨w.heap.size + 1 + 1, 5, none⟩ = _ := cell_of_row _ _ 5 _ _ _ HX7.out.r2
        have r6 : w7.cell? ⟨w.heap.size + 1 + 1, 6, none⟩ = _ := cell_of_row _ _ 6 _ _ _ HX7.out.r2
        have r7 : w7.cell? ⟨w.heap.size + 1 + 1, 7, none⟩ = _ := cell_of_row _ _ 7 _ _ _ HX7.out.r2
        have r8 : w7.cell? ⟨w.heap.size + 1 + 1, 8, none⟩ = _ := cell_of_row _ _ 8 _ _ _ HX7.out.r2
        cases b1 with
        | true =>
          cases b2 with
          | true =>
            go_wp2_with fail
            refine (HS.out _ HX7.out.below).mono ?_
            rintro e w8 ⟨⟨sb, rfl⟩, hq⟩
            have HX8 := Hid.mk (HX7.out.keep hq)
            clear hq
            clear p0 p1 p2 p3 p4 p5 p6 p7 p8 q0 q1 q2 q3 q4 q5 q6 q7 q8 r0 r1 r2 r3 r4 r5 r6 r7 r8
            have p0 : w8.cell? ⟨w.heap.size, 0, none⟩ = _ := cell_of_row _ _ 0 _ _ _ HX8.out.r0
            have p1 : w8.cell? ⟨w.heap.size, 1, none⟩ = _ := cell_of_row _ _ 1 _ _ _ HX8.out.r0
            have p2 : w8.cell? ⟨w.heap.size, 2, none⟩ = _ := cell_of_row _ _ 2 _ _ _ HX8.out.r0
            have p3 : w8.cell? ⟨w.heap.size, 3, none⟩ = _ := cell_of_row _ _ 3 _ _ _ HX8.out.r0
            have p4 : w8.cell? ⟨w.heap.size, 4, none⟩ = _ := cell_of_row _ _ 4 _ _ _ HX8.out.r0
            have p5 : w8.cell? ⟨w.heap.size, 5, none⟩ = _ := cell_of_row _ _ 5 _ _ _ HX8.out.r0
            have p6 : w8.cell? ⟨w.heap.size, 6, none⟩ = _ := cell_of_row _ _ 6 _ _ _ HX8.out.r0
            have p7 : w8.cell? ⟨w.heap.size, 7, none⟩ = _ := cell_of_row _ _ 7 _ _ _ HX8.out.r0
            have p8 : w8.cell? ⟨w.heap.size, 8, none⟩ = _ := cell_of_row _ _ 8 _ _ _ HX8.out.r0
            have q0 : w8.cell? ⟨w.heap.size + 1, 0, none⟩ = _ := cell_of_row _ _ 0 _ _ _ HX8.out.r1
            have q1 : w8.cell? ⟨w.heap.size + 1, 1, none⟩ = _ := cell_of_row _ _ 1 _ _ _ HX8.out.r1
            have q2 : w8.cell? ⟨w.heap.size + 1, 2, none⟩ = _ := cell_of_row _ _ 2 _ _ _ HX8.out.r1
            have q3 : w8.cell? ⟨w.heap.size + 1, 3, none⟩ = _ := cell_of_row _ _ 3 _ _ _ HX8.out.r1
            have q4 : w8.cell? ⟨w.heap.size + 1, 4, none⟩ = _ := cell_of_row _ _ 4 _ _ _ HX8.out.r1
            have q5 : w8.cell? ⟨w.heap.size + 1, 5, none⟩ = _ := cell_of_row _ _ 5 _ _ _ HX8.out.r1
            have q6 : w8.cell? ⟨w.heap.size + 1, 6, none⟩ = _ := cell_of_row _ _ 6 _ _ _ HX8.out.r1
            have q7 : w8.cell? ⟨w.heap.size + 1, 7, none⟩ = _ := cell_of_row _ _ 7 _ _ _ HX8.out.r1
            have q8 : w8.cell? ⟨w.heap.size + 1, 8, none⟩ = _ := cell_of_row _ _ 8 _ _ _ HX8.out.r1
            have r0 : w8.cell? ⟨w.heap.size + 1 + 1, 0, none⟩ = _ := cell_of_row _ _ 0 _ _ _ HX8.out.r2
            have r1 : w8.cell? ⟨w.heap.size + 1 + 1, 1, none⟩ = _ := cell_of_row _ _ 1 _ _ _ HX8.out.r2
            have r2 : w8.cell? ⟨w.heap.size + 1 + 1, 2, none⟩ = _ := cell_of_row _ _ 2 _ _ _ HX8.out.r2
            have r3 : w8.cell? ⟨w.heap.size + 1 + 1, 3, none⟩ = _ := cell_of_row _ _ 3 _ _ _ HX8.out.r2
            have r4 : w8.cell? ⟨w.heap.size + 1 + 1, 4, none⟩ = _ := cell_of_row _ _ 4 _ _ _ HX8.out.r2
            have r5 : w8.cell? ⟨w.heap.size + 1 + 1, 5, none⟩ = _ := cell_of_row _ _ 5 _ _ _ HX8.out.r2
            have r6 : w8.cell? ⟨w.heap.size + 1 + 1, 6, none⟩ = _ := cell_of_row _ _ 6 _ _ _ HX8.out.r2
            have r7 : w8.cell? ⟨w.heap.size + 1 + 1, 7, none⟩ = _ := cell_of_row _ _ 7 _ _ _ HX8.out.r2
            have r8 : w8.cell? ⟨w.heap.size + 1 + 1, 8, none⟩ = _ := cell_of_row _ _ 8 _ _ _ HX8.out.r2
            cases sb with
            | true =>
              go_wp2_with fail
              refine (HT.out _ HX8.out.below).mono ?_
              rintro e w9 ⟨⟨sc, rfl⟩, hq⟩
              have HX9 := Hid.mk (HX8.out.keep hq)
              clear hq
              clear p0 p1 p2 p3 p4 p5 p6 p7 p8 q0 q1 q2 q3 q4 q5 q6 q7 q8 r0 r1 r2 r3 r4 r5 r6 r7 r8
              have p0 : w9.cell? ⟨w.heap.size, 0, none⟩ = _ := cell_of_row _ _ 0 _ _ _ HX9.out.r0
              have p1 : w9.cell? ⟨w.heap.size, 1, none⟩ = _ := cell_of_row _ _ 1 _ _ _ HX9.out.r0
              have p2 : w9.cell? ⟨w.heap.size, 2, none⟩ = _ := cell_of_row _ _ 2 _ _ _ HX9.out.r0
              have p3 : w9.cell? ⟨w.heap.size, 3, none⟩ = _ := cell_of_row _ _ 3 _ _ _ HX9.out.r0
              have p4 : w9.cell? ⟨w.heap.size, 4, none⟩ = _ := cell_of_row _ _ 4 _ _ _ HX9.out.r0
              have p5 : w9.cell? ⟨w.heap.size, 5, none⟩ = _ := cell_of_row _ _ 5 _ _ _ HX9.out.r0
              have p6 : w9.cell? ⟨w.heap.size, 6, none⟩ = _ := cell_of_row _ _ 6 _ _ _ HX9.out.r0
              have p7 : w9.cell? ⟨w.heap.size, 7, none⟩ = _ := cell_of_row _ _ 7 _ _ _ HX9.out.r0
              have p8 : w9.cell? ⟨w.heap.size, 8, none⟩ = _ := cell_of_row _ _ 8 _ _ _ HX9.out.r0
              have q0 : w9.cell? ⟨w.heap.size + 1, 0, none⟩ = _ := cell_of_row _ _ 0 _ _ _ HX9.out.r1
              have q1 : w9.cell? ⟨w.heap.size + 1, 1, none⟩ = _ := cell_of_row _ _ 1 _ _ _ HX9.out.r1
              have q2 : w9.cell? ⟨w.heap.size + 1, 2, none⟩ = _ := cell_of_row _ _ 2 _ _ _ HX9.out.r1
              have q3 : w9.cell? ⟨w.heap.size + 1, 3, none⟩ = _ := cell_of_row _ _ 3 _ _ _ HX9.out.r1
              have q4 : w9.cell? ⟨w.heap.size + 1, 4, none⟩ = _ := cell_of_row _ _ 4 _ _ _ HX9.out.r1
              have q5 : w9.cell? ⟨w.heap.size + 1, 5, none⟩ = _ := cell_of_row _ _ 5 _ _ _ HX9.out.r1
              have q6 : w9.cell? ⟨w.heap.size + 1, 6, none⟩ = _ := cell_of_row _ _ 6 _ _ _ HX9.out.r1
              have q7 : w9.cell? ⟨w.heap.size + 1, 7, none⟩ = _ := cell_of_row _ _ 7 _ _ _ HX9.out.r1
              have q8 : w9.cell? ⟨w.heap.size + 1, 8, none⟩ = _ := cell_of_row _ _ 8 _ _ _ HX9.out.r1
              have r0 : w9.cell? ⟨w.heap.size + 1 + 1, 0, none⟩ = _ := cell_of_row _ _ 0 _ _ _ HX9.out.r2
              have r1 : w9.cell? ⟨w.heap.size + 1 + 1, 1, none⟩ = _ := cell_of_row _ _ 1 _ _ _ HX9.out.r2
              have r2 : w9.cell? ⟨w.heap.size + 1 + 1, 2, none⟩ = _ := cell_of_row _ _ 2 _ _ _ HX9.out.r2
              have r3 : w9.cell? ⟨w.heap.size + 1 + 1, 3, none⟩ = _ := cell_of_row _ _ 3 _ _ _ HX9.out.r2
              have r4 : w9.cell? ⟨w.heap.size + 1 + 1, 4, none⟩ = _ := cell_of_row _ _ 4 _ _ _ HX9.out.r2
              have r5 : w9.cell? ⟨w.heap.size + 1 + 1, 5, none⟩ = _ := cell_of_row _ _ 5 _ _ _ HX9.out.r2
              have r6 : w9.cell? ⟨w.heap.size + 1 + 1, 6, none⟩ = _ := cell_of_row _ _ 6 _ _ _ HX9.out.r2
              have r7 : w9.cell? ⟨w.heap.size + 1 + 1, 7, none⟩ = _ := cell_of_row _ _ 7 _ _ _ HX9.out.r2
              have r8 : w9.cell? ⟨w.heap.size + 1 + 1, 8, none⟩ = _ := cell_of_row _ _ 8 _ _ _ HX9.out.r2
              cases sc with
              | true =>
                obtain rfl : b3 = true := HEE.out.1 (by first | trivial | rfl) (by first | trivial | rfl)
                go_wp2_with fail
                refine (H9.out (by first | trivial | rfl) (by first | trivial | rfl) _ HX9.out.below).mono ?_
                rintro e w10 ⟨rfl, hq⟩
                have HX10 := Hid.mk (HX9.out.keep hq)
                clear hq
                clear p0 p1 p2 p3 p4 p5 p6 p7 p8 q0 q1 q2 q3 q4 q5 q6 q7 q8 r0 r1 r2 r3 r4 r5 r6 r7 r8
                have p0 : w10.cell? ⟨w.heap.size, 0, none⟩ = _ := cell_of_row _ _ 0 _ _ _ HX10.out.r0
                have p1 : w10.cell? ⟨w.heap.size, 1, none⟩ = _ := cell_of_row _ _ 1 _ _ _ HX10.out.r0
                have p2 : w10.cell? ⟨w.heap.size, 2, none⟩ = _ := cell_of_row _ _ 2 _ _ _ HX10.out.r0
                have p3 : w10.cell? ⟨w.heap.size, 3, none⟩ = _ := cell_of_row _ _ 3 _ _ _ HX10.out.r0
                have p4 : w10.cell? ⟨w.heap.size, 4, none⟩ = _ := cell_of_row _ _ 4 _ _ _ HX10.out.r0
                have p5 : w10.cell? ⟨w.heap.size, 5, none⟩ = _ := cell_of_row _ _ 5 _ _ _ HX10.out.r0
                have p6 : w10.cell? ⟨w.heap.size, 6, none⟩ = _ := cell_of_row _ _ 6 _ _ _ HX10.out.r0
                have p7 : w10.cell? ⟨w.heap.size, 7, none⟩ = _ := cell_of_row _ _ 7 _ _ _ HX10.out.r0
                have p8 : w10.cell? ⟨w.heap.size, 8, none⟩ = _ := cell_of_row _ _ 8 _ _ _ HX10.out.r0
                have q0 : w10.cell? ⟨w.heap.size + 1, 0, none⟩ = _ := cell_of_row _ _ 0 _ _ _ HX10.out.r1
                have q1 : w10.cell? ⟨w.heap.size + 1, 1, none⟩ = _ := cell_of_row _ _ 1 _ _ _ HX10.out.r1
                have q2 : w10.cell? ⟨w.heap.size + 1, 2, none⟩ = _ := cell_of_row _ _ 2 _ _ _ HX10.out.r1
                have q3 : w10.cell? ⟨w.heap.size + 1, 3, none⟩ = _ := cell_of_row _ _ 3 _ _ _ HX10.out.r1
                have q4 : w10.cell? ⟨w.heap.size + 1, 4, none⟩ = _ := cell_of_row _ _ 4 _ _ _ HX10.out.r1
                have q5 : w10.cell? ⟨w.heap.size + 1, 5, none⟩ = _ := cell_of_row _ _ 5 _ _ _ HX10.out.r1
                have q6 : w10.cell? ⟨w.heap.size + 1, 6, none⟩ = _ := cell_of_row _ _ 6 _ _ _ HX10.out.r1
                have q7 : w10.cell? ⟨w.heap.size + 1, 7, none⟩ = _ := cell_of_row _ _ 7 _ _ _ HX10.out.r1
                have q8 : w10.cell? ⟨w.heap.size + 1, 8, none⟩ = _ := cell_of_row _ _ 8 _ _ _ HX10.out.r1
                have r0 : w10.cell? ⟨w.heap.size + 1 + 1, 0, none⟩ = _ := cell_of_row _ _ 0 _ _ _ HX10.out.r2
                have r1 : w10.cell? ⟨w.heap.size + 1 + 1, 1, none⟩ = _ := cell_of_row _ _ 1 _ _ _ HX10.out.r2
                have r2 : w10.cell? ⟨w.heap.size + 1 + 1, 2, none⟩ = _ := cell_of_row _ _ 2 _ _ _ HX10.out.r2
                have r3 : w10.cell? ⟨w.heap.size + 1 + 1, 3, none⟩ = _ := cell_of_row _ _ 3 _ _ _ HX10.out.r2
                have r4 : w10.cell? ⟨w.heap.size + 1 + 1, 4, none⟩ = _ := cell_of_row _ _ 4 _ _ _ HX10.out.r2
                have r5 : w10.cell? ⟨w.heap.size + 1 + 1, 5, none⟩ = _ := cell_of_row _ _ 5 _ _ _ HX10.out.r2
                have r6 : w10.cell? ⟨w.heap.size + 1 + 1, 6, none⟩ = _ := cell_of_row _ _ 6 _ _ _ HX10.out.r2
                have r7 : w10.cell? ⟨w.heap.size + 1 + 1, 7, none⟩ = _ := cell_of_row _ _ 7 _ _ _ HX10.out.r2
                have r8 : w10.cell? ⟨w.heap.size + 1 + 1, 8, none⟩ = _ := cell_of_row _ _ 8 _ _ _ HX10.out.r2
                cases x with
                | true =>
                  go_wp2_with fail
                  refine (HP.out (by first | trivial | rfl) (by first | trivial | rfl) _ HX10.out.below).mono ?_
                  rintro e w11 ⟨rfl, hq⟩
                  have HX11 := Hid.mk (HX10.out.keep hq)
                  clear hq
                  clear p0 p1 p2 p3 p4 p5 p6 p7 p8 q0 q1 q2 q3 q4 q5 q6 q7 q8 r0 r1 r2 r3 r4 r5 r6 r7 r8
                  have p0 : w11.cell? ⟨w.heap.size, 0, none⟩ = _ := cell_of_row _ _ 0 _ _ _ HX11.out.r0
                  have p1 : w11.cell? ⟨w.heap.size, 1, none⟩ = _ := cell_of_row _ _ 1 _ _ _ HX11.out.r0
                  have p2 : w11.cell? ⟨w.heap.size, 2, none⟩ = _ := cell_of_row _ _ 2 _ _ _ HX11.out.r0
                  have p3 : w11.cell? ⟨w.heap.size, 3, none⟩ = _ := cell_of_row _ _ 3 _ _ _ HX11.out.r0
                  have p4 : w11.cell? ⟨w.heap.size, 4, none⟩ = _ := cell_of_row _ _ 4 _ _ _ HX11.out.r0
                  have p5 : w11.cell? ⟨w.heap.size, 5, none⟩ = _ := cell_of_row _ _ 5 _ _ _ HX11.out.r0
                  have p6 : w11.cell? ⟨w.heap.size, 6, none⟩ = _ := cell_of_row _ _ 6 _ _ _ HX11.out.r0
                  have p7 : w11.cell? ⟨w.heap.size, 7, none⟩ = _ := cell_of_row _ _ 7 _ _ _ HX11.out.r0
                  have p8 : w11.cell? ⟨w.heap.size, 8, none⟩ = _ := cell_of_row _ _ 8 _ _ _ HX11.out.r0
                  have q0 : w11.cell? ⟨w.heap.size + 1, 0, none⟩ = _ := cell_of_row _ _ 0 _ _ _ HX11.out.r1
                  have q1 : w11.cell? ⟨w.heap.size + 1, 1, none⟩ = _ := cell_of_row _ _ 1 _ _ _ HX11.out.r1
                  have q2 : w11.cell? ⟨w.heap.size + 1, 2, none⟩ = _ := cell_of_row _ _ 2 _ _ _ HX11.out.r1
                  have q3 : w11.cell? ⟨w.heap.size + 1, 3, none⟩ = _ := cell_of_row _ _ 3 _ _ _ HX11.out.r1
                  have q4 : w11.cell? ⟨w.heap.size + 1, 4, none⟩ = _ := cell_of_row _ _ 4 _ _ _ HX11.out.r1
                  have q5 : w11.cell? ⟨w.heap.size + 1, 5, none⟩ = _ := cell_of_row _ _ 5 _ _ _ HX11.out.r1
                  have q6 : w11.cell? ⟨w.heap.size + 1, 6, none⟩ = _ := cell_of_row _ _ 6 _ _ _ HX11.out.r1
                  have q7 : w11.cell? ⟨w.heap.size + 1, 7, none⟩ = _ := cell_of_row _ _ 7 _ _ _ HX11.out.r1
                  have q8 : w11.cell? ⟨w.heap.size + 1, 8, none⟩ = _ := cell_of_row _ _ 8 _ _ _ HX11.out.r1
                  have r0 : w11.cell? ⟨w.heap.size + 1 + 1, 0, none⟩ = _ := cell_of_row _ _ 0 _ _ _ HX11.out.r2
                  have r1 : w11.cell? ⟨w.heap.size + 1 + 1, 1, none⟩ = _ := cell_of_row _ _ 1 _ _ _ HX11.out.r2
                  have r2 : w11.cell? ⟨w.heap.size + 1 + 1, 2, none⟩ = _ := cell_of_row _ _ 2 _ _ _ HX11.out.r2
                  have r3 : w11.cell? ⟨w.heap.size + 1 + 1, 3, none⟩ = _ := cell_of_row _ _ 3 _ _ _ HX11.out.r2
                  have r4 : w11.cell? ⟨w.heap.size + 1 + 1, 4, none⟩ = _ := cell_of_row _ _ 4 _ _ _ HX11.out.r2
                  have r5 : w11.cell? ⟨w.heap.size + 1 + 1, 5, none⟩ = _ := cell_of_row _ _ 5 _ _ _ HX11.out.r2
                  have r6 : w11.cell? ⟨w.heap.size + 1 + 1, 6, none⟩ = _ := cell_of_row _ _ 6 _ _ _ HX11.out.r2
                  have r7 : w11.cell? ⟨w.heap.size + 1 + 1, 7, none⟩ = _ := cell_of_row _ _ 7 _ _ _ HX11.out.r2
                  have r8 : w11.cell? ⟨w.heap.size + 1 + 1, 8, none⟩ = _ := cell_of_row _ _ 8 _ _ _ HX11.out.r2
                  go_wp2_with fail
                  refine (HQ.out (by first | trivial | rfl) (by first | trivial | rfl) _ HX11.out.below).mono ?_
                  rintro e w12 ⟨rfl, hq⟩
                  have HX12 := Hid.mk (HX11.out.keep hq)
                  clear hq
                  clear p0 p1 p2 p3 p4 p5 p6 p7 p8 q0 q1 q2 q3 q4 q5 q6 q7 q8 r0 r1 r2 r3 r4 r5 r6 r7 r8
                  have p0 : w12.cell? ⟨w.heap.size, 0, none⟩ = _ := cell_of_row _ _ 0 _ _ _ HX12.out.r0
                  have p1 : w12.cell? ⟨w.heap.size, 1, none⟩ = _ := cell_of_row _ _ 1 _ _ _ HX12.out.r0
                  have p2 : w12.cell? ⟨w.heap.size, 2, none⟩ = _ := cell_of_row _ _ 2 _ _ _ HX12.out.r0
                  have p3 : w12.cell? ⟨w.heap.size, 3, none⟩ = _ := cell_of_row _ _ 3 _ _ _ HX12.out.r0
                  have p4 : w12.cell? ⟨w.heap.size, 4, none⟩ = _ := cell_of_row _ _ 4 _ _ _ HX12.out.r0
                  have p5 : w12.cell? ⟨w.heap.size, 5, none⟩ = _ := cell_of_row _ _ 5 _ _ _ HX12.out.r0
                  have p6 : w12.cell? ⟨w.heap.size, 6, none⟩ = _ := cell_of_row _ _ 6 _ _ _ HX12.out.r0
                  have p7 : w12.cell? ⟨w.heap.size, 7, none⟩ = _ := cell_of_row _ _ 7 _ _ _ HX12.out.r0
                  have p8 : w12.cell? ⟨w.heap.size, 8, none⟩ = _ := cell_of_row _ _ 8 _ _ _ HX12.out.r0
                  have q0 : w12.cell? ⟨w.heap.size + 1, 0, none⟩ = _ := cell_of_row _ _ 0 _ _ _ HX12.out.r1
                  have q1 : w12.cell? ⟨w.heap.size + 1, 1, none⟩ = _ := cell_of_row _ _ 1 _ _ _ HX12.out.r1
                  have q2 : w12.cell? ⟨w.heap.size + 1, 2, none⟩ = _ := cell_of_row _ _ 2 _ _ _ HX12.out.r1
                  have q3 : w12.cell? ⟨w.heap.size + 1, 3, none⟩ = _ := cell_of_row _ _ 3 _ _ _ HX12.out.r1
                  have q4 : w12.cell? ⟨w.heap.size + 1, 4, none⟩ = _ := cell_of_row _ _ 4 _ _ _ HX12.out.r1
                  have q5 : w12.cell? ⟨w.heap.size + 1, 5, none⟩ = _ := cell_of_row _ _ 5 _ _ _ HX12.out.r1
                  have q6 : w12.cell? ⟨w.heap.size + 1, 6, none⟩ = _ := cell_of_row _ _ 6 _ _ _ HX12.out.r1
                  have q7 : w12.cell? ⟨w.heap.size + 1, 7, none⟩ = _ := cell_of_row _ _ 7 _ _ _ HX12.out.r1
                  have q8 : w12.cell? ⟨w.heap.size + 1, 8, none⟩ = _ := cell_of_row _ _ 8 _ _ _ HX12.out.r1
                  have r0 : w12.cell? ⟨w.heap.size + 1 + 1, 0, none⟩ = _ := cell_of_row _ _ 0 _ _ _ HX12.out.r2
                  have r1 : w12.cell? ⟨w.heap.size + 1 + 1, 1, none⟩ = _ := cell_of_row _ _ 1 _ _ _ HX12.out.r2
                  have r2 : w12.cell? ⟨w.heap.size + 1 + 1, 2, none⟩ = _ := cell_of_row _ _ 2 _ _ _ HX12.out.r2
                  have r3 : w12.cell? ⟨w.heap.size + 1 + 1, 3, none⟩ = _ := cell_of_row _ _ 3 _ _ _ HX12.out.r2
                  have r4 : w12.cell? ⟨w.heap.size + 1 + 1, 4, none⟩ = _ := cell_of_row _ _ 4 _ _ _ HX12.out.r2
                  have r5 : w12.cell? ⟨w.heap.size + 1 + 1, 5, none⟩ = _ := cell_of_row _ _ 5 _ _ _ HX12.out.r2
                  have r6 : w12.cell? ⟨w.heap.size + 1 + 1, 6, none⟩ = _ := cell_of_row _ _ 6 _ _ _ HX12.out.r2
                  have r7 : w12.cell? ⟨w.heap.size + 1 + 1, 7, none⟩ = _ := cell_of_row _ _ 7 _ _ _ HX12.out.r2
                  have r8 : w12.cell? ⟨w.heap.size + 1 + 1, 8, none⟩ = _ := cell_of_row _ _ 8 _ _ _ HX12.out.r2
                  obtain rfl : y = true := HEE.out.2 (by first | trivial | rfl) (by first | trivial | rfl)
                  go_wp2_with fail
                  refine (HR.out (by first | trivial | rfl) (by first | trivial | rfl) _ HX12.out.below).mono ?_
                  rintro e w13 ⟨rfl, hq⟩
                  have HX13 := Hid.mk (HX12.out.keep hq)
                  clear hq
                  clear p0 p1 p2 p3 p4 p5 p6 p7 p8 q0 q1 q2 q3 q4 q5 q6 q7 q8 r0 r1 r2 r3 r4 r5 r6 r7 r8
                  have p0 : w13.cell? ⟨w.heap.size, 0, none⟩ = _ := cell_of_row _ _ 0 _ _ _ HX13.out.r0
                  have p1 : w13.cell? ⟨w.heap.size, 1, none⟩ = _ := cell_of_row _ _ 1 _ _ _ HX13.out.r0
                  have p2 : w13.cell? ⟨w.heap.size, 2, none⟩ = _ := cell_of_row _ _ 2 _ _ _ HX13.out.r0
                  have p3 : w13.cell? ⟨w.heap.size, 3, none⟩ = _ := cell_of_row _ _ 3 _ _ _ HX13.out.r0
                  have p4 : w13.cell? ⟨w.heap.size, 4, none⟩ = _ := cell_of_row _ _ 4 _ _ _ HX13.out.r0
                  have p5 : w13.cell? ⟨w.heap.size, 5, none⟩ = _ := cell_of_row _ _ 5 _ _ _ HX13.out.r0
                  have p6 : w13.cell? ⟨w.heap.size, 6, none⟩ = _ := cell_of_row _ _ 6 _ _ _ HX13.out.r0
                  have p7 : w13.cell? ⟨w.heap.size, 7, none⟩ = _ := cell_of_row _ _ 7 _ _ _ HX13.out.r0
                  have p8 : w13.cell? ⟨w.heap.size, 8, none⟩ = _ := cell_of_row _ _ 8 _ _ _ HX13.out.r0
                  have q0 : w13.cell? ⟨w.heap.size + 1, 0, none⟩ = _ := cell_of_row _ _ 0 _ _ _ HX13.out.r1
                  have q1 : w13.cell? ⟨w.heap.size + 1, 1, none⟩ = _ := cell_of_row _ _ 1 _ _ _ HX13.out.r1
                  have q2 : w13.cell? ⟨w.heap.size + 1, 2, none⟩ = _ := cell_of_row _ _ 2 _ _ _ HX13.out.r1
                  have q3 : w13.cell? ⟨w.heap.size + 1, 3, none⟩ = _ := cell_of_row _ _ 3 _ _ _ HX13.out.r1
                  have q4 : w13.cell? ⟨w.heap.size + 1, 4, none⟩ = _ := cell_of_row _ _ 4 _ _ _ HX13.out.r1
                  have q5 : w13.cell? ⟨w.heap.size + 1, 5, none⟩ = _ := cell_of_row _ _ 5 _ _ _ HX13.out.r1
                  have q6 : w13.cell? ⟨w.heap.size + 1, 6, none⟩ = _ := cell_of_row _ _ 6 _ _ _ HX13.out.r1
                  have q7 : w13.cell? ⟨w.heap.size + 1, 7, none⟩ = _ := cell_of_row _ _ 7 _ _ _ HX13.out.r1
                  have q8 : w13.cell? ⟨w.heap.size + 1, 8, none⟩ = _ := cell_of_row _ _ 8 _ _ _ HX13.out.r1
                  have r0 : w13.cell? ⟨w.heap.size + 1 + 1, 0, none⟩ = _ := cell_of_row _ _ 0 _ _ _ HX13.out.r2
                  have r1 : w13.cell? ⟨w.heap.size + 1 + 1, 1, none⟩ = _ := cell_of_row _ _ 1 _ _ _ HX13.out.r2
                  have r2 : w13.cell? ⟨w.heap.size + 1 + 1, 2, none⟩ = _ := cell_of_row _ _ 2 _ _ _ HX13.out.r2
                  have r3 : w13.cell? ⟨w.heap.size + 1 + 1, 3, none⟩ = _ := cell_of_row _ _ 3 _ _ _ HX13.out.r2
                  have r4 : w13.cell? ⟨w.heap.size + 1 + 1, 4, none⟩ = _ := cell_of_row _ _ 4 _ _ _ HX13.out.r2
                  have r5 : w13.cell? ⟨w.heap.size + 1 + 1, 5, none⟩ = _ := cell_of_row _ _ 5 _ _ _ HX13.out.r2
                  have r6 : w13.cell? ⟨w.heap.size + 1 + 1, 6, none⟩ = _ := cell_of_row _ _ 6 _ _ _ HX13.out.r2
                  have r7 : w13.cell? ⟨w.heap.size + 1 + 1, 7, none⟩ = _ := cell_of_row _ _ 7 _ _ _ HX13.out.r2
                  have r8 : w13.cell? ⟨w.heap.size + 1 + 1, 8, none⟩ = _ := cell_of_row _ _ 8 _ _ _ HX13.out.r2
                  go_wp2_with fail
                  go_ret
                  exact ⟨by first | rfl | simp, HX13.out.below⟩
                | false =>
                  go_wp2_with fail
                  refine (HP.out (by first | trivial | rfl) (by first | trivial | rfl) _ HX10.out.below).mono ?_
                  rintro e w11 ⟨rfl, hq⟩
                  have HX11 := Hid.mk (HX10.out.keep hq)
                  clear hq
                  clear p0 p1 p2 p3 p4 p5 p6 p7 p8 q0 q1 q2 q3 q4 q5 q6 q7 q8 r0 r1 r2 r3 r4 r5 r6 r7 r8
                  have p0 : w11.cell? ⟨w.heap.size, 0, none⟩ = _ := cell_of_row _ _ 0 _ _ _ HX11.out.r0
                  have p1 : w11.cell? ⟨w.heap.size, 1, none⟩ = _ := cell_of_row _ _ 1 _ _ _ HX11.out.r0
                  have p2 : w11.cell? ⟨w.heap.size, 2, none⟩ = _ := cell_of_row _ _ 2 _ _ _ HX11.out.r0
                  have p3 : w11.cell? ⟨w.heap.size, 3, none⟩ = _ := cell_of_row _ _ 3 _ _ _ HX11.out.r0
                  have p4 : w11.cell? ⟨w.heap.size, 4, none⟩ = _ := cell_of_row _ _ 4 _ _ _ HX11.out.r0
                  have p5 : w11.cell? ⟨w.heap.size, 5, none⟩ = _ := cell_of_row _ _ 5 _ _ _ HX11.out.r0
                  have p6 : w11.cell? ⟨w.heap.size, 6, none⟩ = _ := cell_of_row _ _ 6 _ _ _ HX11.out.r0
                  have p7 : w11.cell? ⟨w.heap.size, 7, none⟩ = _ := cell_of_row _ _ 7 _ _ _ HX11.out.r0
                  have p8 : w11.cell? ⟨w.heap.size, 8, none⟩ = _ := cell_of_row _ _ 8 _ _ _ HX11.out.r0
                  have q0 : w11.cell? ⟨w.heap.size + 1, 0, none⟩ = _ := cell_of_row _ _ 0 _ _ _ HX11.out.r1
                  have q1 : w11.cell? ⟨w.heap.size + 1, 1, none⟩ = _ := cell_of_row _ _ 1 _ _ _ HX11.out.r1
                  have q2 : w11.cell? ⟨w.heap.size + 1, 2, none⟩ = _ := cell_of_row _ _ 2 _ _ _ HX11.out.r1
                  have q3 : w11.cell? ⟨w.heap.size + 1, 3, none⟩ = _ := cell_of_row _ _ 3 _ _ _ HX11.out.r1
                  have q4 : w11.cell? ⟨w.heap.size + 1, 4, none⟩ = _ := cell_of_row _ _ 4 _ _ _ HX11.out.r1
                  have q5 : w11.cell? ⟨w.heap.size + 1, 5, none⟩ = _ := cell_of_row _ _ 5 _ _ _ HX11.out.r1
                  have q6 : w11.cell? ⟨w.heap.size + 1, 6, none⟩ = _ := cell_of_row _ _ 6 _ _ _ HX11.out.r1
                  have q7 : w11.cell? ⟨w.heap.size + 1, 7, none⟩ = _ := cell_of_row _ _ 7 _ _ _ HX11.out.r1
                  have q8 : w11.cell? ⟨w.heap.size + 1, 8, none⟩ = _ := cell_of_row _ _ 8 _ _ _ HX11.out.r1
                  have r0 : w11.cell? ⟨w.heap.size + 1 + 1, 0, none⟩ = _ := cell_of_row _ _ 0 _ _ _ HX11.out.r2
                  have r1 : w11.cell? ⟨w.heap.size + 1 + 1, 1, none⟩ = _ := cell_of_row _ _ 1 _ _ _ HX11.out.r2
                  have r2 : w11.cell? ⟨w.heap.size + 1 + 1, 2, none⟩ = _ := cell_of_row _ _ 2 _ _ _ HX11.out.r2
                  have r3 : w11.cell? ⟨w.heap.size + 1 + 1, 3, none⟩ = _ := cell_of_row _ _ 3 _ _ _ HX11.out.r2
                  have r4 : w11.cell? ⟨w.heap.size + 1 + 1, 4, none⟩ = _ := cell_of_row _ _ 4 _ _ _ HX11.out.r2
                  have r5 : w11.cell? ⟨w.heap.size + 1 + 1, 5, none⟩ = _ := cell_of_row _ _ 5 _ _ _ HX11.out.r2
                  have r6 : w11.cell? ⟨w.heap.size + 1 + 1, 6, none⟩ = _ := cell_of_row _ _ 6 _ _ _ HX11.out.r2
                  have r7 : w11.cell? ⟨w.heap.size + 1 + 1, 7, none⟩ = _ := cell_of_row _ _ 7 _ _ _ HX11.out.r2
                  have r8 : w11.cell? ⟨w.heap.size + 1 + 1, 8, none⟩ = _ := cell_of_row _ _ 8 _ _ _ HX11.out.r2
                  go_wp2_with fail
                  refine (HQ.out (by first | trivial | rfl) (by first | trivial | rfl) _ HX11.out.below).mono ?_
                  rintro e w12 ⟨rfl, hq⟩
                  have HX12 := Hid.mk (HX11.out.keep hq)
                  clear hq
                  clear p0 p1 p2 p3 p4 p5 p6 p7 p8 q0 q1 q2 q3 q4 q5 q6 q7 q8 r0 r1 r2 r3 r4 r5 r6 r7 r8
                  have p0 : w12.cell? ⟨w.heap.size, 0, none⟩ = _ := cell_of_row _ _ 0 _ _ _ HX12.out.r0
                  have p1 : w12.cell? ⟨w.heap.size, 1, none⟩ = _ := cell_of_row _ _ 1 _ _ _ HX12.out.r0
                  have p2 : w12.cell? ⟨w.heap.size, 2, none⟩ = _ := cell_of_row _ _ 2 _ _ _ HX12.out.r0
                  have p3 : w12.cell? ⟨w.heap.size, 3, none⟩ = _ := cell_of_row _ _ 3 _ _ _ HX12.out.r0
                  have p4 : w12.cell? ⟨w.heap.size, 4, none⟩ = _ := cell_of_row _ _ 4 _ _ _ HX12.out.r0
                  have p5 : w12.cell? ⟨w.heap.size, 5, none⟩ = _ := cell_of_row _ _ 5 _ _ _ HX12.out.r0
                  have p6 : w12.cell? ⟨w.heap.size, 6, none⟩ = _ := cell_of_row _ _ 6 _ _ _ HX12.out.r0
                  have p7 : w12.cell? ⟨w.heap.size, 7, none⟩ = _ := cell_of_row _ _ 7 _ _ _ HX12.out.r0
                  have p8 : w12.cell? ⟨w.heap.size, 8, none⟩ = _ := cell_of_row _ _ 8 _ _ _ HX12.out.r0
                  have q0 : w12.cell? ⟨w.heap.size + 1, 0, none⟩ = _ := cell_of_row _ _ 0 _ _ _ HX12.out.r1
                  have q1 : w12.cell? ⟨w.heap.size + 1, 1, none⟩ = _ := cell_of_row _ _ 1 _ _ _ HX12.out.r1
                  have q2 : w12.cell? ⟨w.heap.size + 1, 2, none⟩ = _ := cell_of_row _ _ 2 _ _ _ HX12.out.r1
                  have q3 : w12.cell? ⟨w.heap.size + 1, 3, none⟩ = _ := cell_of_row _ _ 3 _ _ _ HX12.out.r1
                  have q4 : w12.cell? ⟨w.heap.size + 1, 4, none⟩ = _ := cell_of_row _ _ 4 _ _ _ HX12.out.r1
                  have q5 : w12.cell? ⟨w.heap.size + 1, 5, none⟩ = _ := cell_of_row _ _ 5 _ _ _ HX12.out.r1
                  have q6 : w12.cell? ⟨w.heap.size + 1, 6, none⟩ = _ := cell_of_row _ _ 6 _ _ _ HX12.out.r1
                  have q7 : w12.cell? ⟨w.heap.size + 1, 7, none⟩ = _ := cell_of_row _ _ 7 _ _ _ HX12.out.r1
                  have q8 : w12.cell? ⟨w.heap.size + 1, 8, none⟩ = _ := cell_of_row _ _ 8 _ _ _ HX12.out.r1
                  have r0 : w12.cell? ⟨w.heap.size + 1 + 1, 0, none⟩ = _ := cell_of_row _ _ 0 _ _ _ HX12.out.r2
                  have r1 : w12.cell? ⟨w.heap.size + 1 + 1, 1, none⟩ = _ := cell_of_row _ _ 1 _ _ _ HX12.out.r2
                  have r2 : w12.cell? ⟨w.heap.size + 1 + 1, 2, none⟩ = _ := cell_of_row _ _ 2 _ _ _ HX12.out.r2
                  have r3 : w12.cell? ⟨w.heap.size + 1 + 1, 3, none⟩ = _ := cell_of_row _ _ 3 _ _ _ HX12.out.r2
                  have r4 : w12.cell? ⟨w.heap.size + 1 + 1, 4, none⟩ = _ := cell_of_row _ _ 4 _ _ _ HX12.out.r2
                  have r5 : w12.cell? ⟨w.heap.size + 1 + 1, 5, none⟩ = _ := cell_of_row _ _ 5 _ _ _ HX12.out.r2
                  have r6 : w12.cell? ⟨w.heap.size + 1 + 1, 6, none⟩ = _ := cell_of_row _ _ 6 _ _ _ HX12.out.r2
                  have r7 : w12.cell? ⟨w.heap.size + 1 + 1, 7, none⟩ = _ := cell_of_row _ _ 7 _ _ _ HX12.out.r2
                  have r8 : w12.cell? ⟨w.heap.size + 1 + 1, 8, none⟩ = _ := cell_of_row _ _ 8 _ _ _ HX12.out.r2
                  go_wp2_with fail
                  go_ret
                  exact ⟨by first | rfl | simp, HX12.out.below⟩
              | false =>
                cases x with
                | true =>
                  go_wp2_with fail
                  refine (HP.out (by first | trivial | rfl) (by first | trivial | rfl) _ HX9.out.below).mono ?_
                  rintro e w10 ⟨rfl, hq⟩
                  have HX10 := Hid.mk (HX9.out.keep hq)
                  clear hq
                  clear p0 p1 p2 p3 p4 p5 p6 p7 p8 q0 q1 q2 q3 q4 q5 q6 q7 q8 r0 r1 r2 r3 r4 r5 r6 r7 r8
                  have p0 : w10.cell? ⟨w.heap.size, 0, none⟩ = _ := cell_of_row _ _ 0 _ _ _ HX10.out.r0
                  have p1 : w10.cell? ⟨w.heap.size, 1, none⟩ = _ := cell_of_row _ _ 1 _ _ _ HX10.out.r0
                  have p2 : w10.cell? ⟨w.heap.size, 2, none⟩ = _ := cell_of_row _ _ 2 _ _ _ HX10.out.r0
                  have p3 : w10.cell? ⟨w.heap.size, 3, none⟩ = _ := cell_of_row _ _ 3 _ _ _ HX10.out.r0
                  have p4 : w10.cell? ⟨w.heap.size, 4, none⟩ = _ := cell_of_row _ _ 4 _ _ _ HX10.out.r0
                  have p5 : w10.cell? ⟨w.heap.size, 5, none⟩ = _ := cell_of_row _ _ 5 _ _ _ HX10.out.r0
                  have p6 : w10.cell? ⟨w.heap.size, 6, none⟩ = _ := cell_of_row _ _ 6 _ _ _ HX10.out.r0
                  have p7 : w10.cell? ⟨w.heap.size, 7, none⟩ = _ := cell_of_row _ _ 7 _ _ _ HX10.out.r0
                  have p8 : w10.cell? ⟨w.heap.size, 8, none⟩ = _ := cell_of_row _ _ 8 _ _ _ HX10.out.r0
                  have q0 : w10.cell? ⟨w.heap.size + 1, 0, none⟩ = _ := cell_of_row _ _ 0 _ _ _ HX10.out.r1
                  have q1 : w10.cell? ⟨w.heap.size + 1, 1, none⟩ = _ := cell_of_row _ _ 1 _ _ _ HX10.out.r1
                  have q2 : w10.cell? ⟨w.heap.size + 1, 2, none⟩ = _ := cell_of_row _ _ 2 _ _ _ HX10.out.r1
                  have q3 : w10.cell? ⟨w.heap.size + 1, 3, none⟩ = _ := cell_of_row _ _ 3 _ _ _ HX10.out.r1
                  have q4 : w10.cell? ⟨w.heap.size + 1, 4, none⟩ = _ := cell_of_row _ _ 4 _ _ _ HX10.out.r1
                  have q5 : w10.cell? ⟨w.heap.size + 1, 5, none⟩ = _ := cell_of_row _ _ 5 _ _ _ HX10.out.r1
                  have q6 : w10.cell? ⟨w.heap.size + 1, 6, none⟩ = _ := cell_of_row _ _ 6 _ _ _ HX10.out.r1
                  have q7 : w10.cell? ⟨w.heap.size + 1, 7, none⟩ = _ := cell_of_row _ _ 7 _ _ _ HX10.out.r1
                  have q8 : w10.cell? ⟨w.heap.size + 1, 8, none⟩ = _ := cell_of_row _ _ 8 _ _ _ HX10.out.r1
                  have r0 : w10.cell? ⟨w.heap.size + 1 + 1, 0, none⟩ = _ := cell_of_row _ _ 0 _ _ _ HX10.out.r2
                  have r1 : w10.cell? ⟨w.heap.size + 1 + 1, 1, none⟩ = _ := cell_of_row _ _ 1 _ _ _ HX10.out.r2
                  have r2 : w10.cell? ⟨w.heap.size + 1 + 1, 2, none⟩ = _ := cell_of_row _ _ 2 _ _ _ HX10.out.r2
                  have r3 : w10.cell? ⟨w.heap.size + 1 + 1, 3, none⟩ = _ := cell_of_row _ _ 3 _ _ _ HX10.out.r2
                  have r4 : w10.cell? ⟨w.heap.size + 1 + 1, 4, none⟩ = _ := cell_of_row _ _ 4 _ _ _ HX10.out.r2
                  have r5 : w10.cell? ⟨w.heap.size + 1 + 1, 5, none⟩ = _ := cell_of_row _ _ 5 _ _ _ HX10.out.r2
                  have r6 : w10.cell? ⟨w.heap.size + 1 + 1, 6, none⟩ = _ := cell_of_row _ _ 6 _ _ _ HX10.out.r2
                  have r7 : w10.cell? ⟨w.heap.size + 1 + 1, 7, none⟩ = _ := cell_of_row _ _ 7 _ _ _ HX10.out.r2
                  have r8 : w10.cell? ⟨w.heap.size + 1 + 1, 8, none⟩ = _ := cell_of_row _ _ 8 _ _ _ HX10.out.r2
                  go_wp2_with fail
                  refine (HQ.out (by first | trivial | rfl) (by first | trivial | rfl) _ HX10.out.below).mono ?_
                  rintro e w11 ⟨rfl, hq⟩
                  have HX11 := Hid.mk (HX10.out.keep hq)
                  clear hq
                  clear p0 p1 p2 p3 p4 p5 p6 p7 p8 q0 q1 q2 q3 q4 q5 q6 q7 q8 r0 r1 r2 r3 r4 r5 r6 r7 r8
                  have p0 : w11.cell? ⟨w.heap.size, 0, none⟩ = _ := cell_of_row _ _ 0 _ _ _ HX11.out.r0
                  have p1 : w11.cell? ⟨w.heap.size, 1, none⟩ = _ := cell_of_row _ _ 1 _ _ _ HX11.out.r0
                  have p2 : w11.cell? ⟨w.heap.size, 2, none⟩ = _ := cell_of_row _ _ 2 _ _ _ HX11.out.r0
                  have p3 : w11.cell? ⟨w.heap.size, 3, none⟩ = _ := cell_of_row _ _ 3 _ _ _ HX11.out.r0
                  have p4 : w11.cell? ⟨w.heap.size, 4, none⟩ = _ := cell_of_row _ _ 4 _ _ _ HX11.out.r0
                  have p5 : w11.cell? ⟨w.heap.size, 5, none⟩ = _ := cell_of_row _ _ 5 _ _ _ HX11.out.r0
                  have p6 : w11.cell? ⟨w.heap.size, 6, none⟩ = _ := cell_of_row _ _ 6 _ _ _ HX11.out.r0
                  have p7 : w11.cell? ⟨w.heap.size, 7, none⟩ = _ := cell_of_row _ _ 7 _ _ _ HX11.out.r0
                  have p8 : w11.cell? ⟨w.heap.size, 8, none⟩ = _ := cell_of_row _ _ 8 _ _ _ HX11.out.r0
                  have q0 : w11.cell? ⟨w.heap.size + 1, 0, none⟩ = _ := cell_of_row _ _ 0 _ _ _ HX11.out.r1
                  have q1 : w11.cell? ⟨w.heap.size + 1, 1, none⟩ = _ := cell_of_row _ _ 1 _ _ _ HX11.out.r1
                  have q2 : w11.cell? ⟨w.heap.size + 1, 2, none⟩ = _ := cell_of_row _ _ 2 _ _ _ HX11.out.r1
                  have q3 : w11.cell? ⟨w.heap.size + 1, 3, none⟩ = _ := cell_of_row _ _ 3 _ _ _ HX11.out.r1
                  have q4 : w11.cell? ⟨w.heap.size + 1, 4, none⟩ = _ := cell_of_row _ _ 4 _ _ _ HX11.out.r1
                  have q5 : w11.cell? ⟨w.heap.size + 1, 5, none⟩ = _ := cell_of_row _ _ 5 _ _ _ HX11.out.r1
                  have q6 : w11.cell? ⟨w.heap.size + 1, 6, none⟩ = _ := cell_of_row _ _ 6 _ _ _ HX11.out.r1
                  have q7 : w11.cell? ⟨w.heap.size + 1, 7, none⟩ = _ := cell_of_row _ _ 7 _ _ _ HX11.out.r1
                  have q8 : w11.cell? ⟨w.heap.size + 1, 8, none⟩ = _ := cell_of_row _ _ 8 _ _ _ HX11.out.r1
                  have r0 : w11.cell? ⟨w.heap.size + 1 + 1, 0, none⟩ = _ := cell_of_row _ _ 0 _ _ _ HX11.out.r2
                  have r1 : w11.cell? ⟨w.heap.size + 1 + 1, 1, none⟩ = _ := cell_of_row _ _ 1 _ _ _ HX11.out.r2
                  have r2 : w11.cell? ⟨w.heap.size + 1 + 1, 2, none⟩ = _ := cell_of_row _ _ 2 _ _ _ HX11.out.r2
                  have r3 : w11.cell? ⟨w.heap.size + 1 + 1, 3, none⟩ = _ := cell_of_row _ _ 3 _ _ _ HX11.out.r2
                  have r4 : w11.cell? ⟨w.heap.size + 1 + 1, 4, none⟩ = _ := cell_of_row _ _ 4 _ _ _ HX11.out.r2
                  have r5 : w11.cell? ⟨w.heap.size + 1 + 1, 5, none⟩ = _ := cell_of_row _ _ 5 _ _ _ HX11.out.r2
                  have r6 : w11.cell? ⟨w.heap.size + 1 + 1, 6, none⟩ = _ := cell_of_row _ _ 6 _ _ _ HX11.out.r2
                  have r7 : w11.cell? ⟨w.heap.size + 1 + 1, 7, none⟩ = _ := cell_of_row _ _ 7 _ _ _ HX11.out.r2
                  have r8 : w11.cell? ⟨w.heap.size + 1 + 1, 8, none⟩ = _ := cell_of_row _ _ 8 _ _ _ HX11.out.r2
                  obtain rfl : y = true := HEE.out.2 (by first | trivial | rfl) (by first | trivial | rfl)
                  go_wp2_with fail
                  refine (HR.out (by first | trivial | rfl) (by first | trivial | rfl) _ HX11.out.below).mono ?_
                  rintro e w12 ⟨rfl, hq⟩
                  have HX12 := Hid.mk (HX11.out.keep hq)
                  clear hq
                  clear p0 p1 p2 p3 p4 p5 p6 p7 p8 q0 q1 q2 q3 q4 q5 q6 q7 q8 r0 r1 r2 r3 r4 r5 r6 r7 r8
                  have p0 : w12.cell? ⟨w.heap.size, 0, none⟩ = _ := cell_of_row _ _ 0 _ _ _ HX12.out.r0
                  have p1 : w12.cell? ⟨w.heap.size, 1, none⟩ = _ := cell_of_row _ _ 1 _ _ _ HX12.out.r0
                  have p2 : w12.cell? ⟨w.heap.size, 2, none⟩ = _ := cell_of_row _ _ 2 _ _ _ HX12.out.r0
                  have p3 : w12.cell? ⟨w.heap.size, 3, none⟩ = _ := cell_of_row _ _ 3 _ _ _ HX12.out.r0
                  have p4 : w12.cell? ⟨w.heap.size, 4, none⟩ = _ := cell_of_row _ _ 4 _ _ _ HX12.out.r0
                  have p5 : w12.cell? ⟨w.heap.size, 5, none⟩ = _ := cell_of_row _ _ 5 _ _ _ HX12.out.r0
                  have p6 : w12.cell? ⟨w.heap.size, 6, none⟩ = _ := cell_of_row _ _ 6 _ _ _ HX12.out.r0
                  have p7 : w12.cell? ⟨w.heap.size, 7, none⟩ = _ := cell_of_row _ _ 7 _ _ _ HX12.out.r0
                  have p8 : w12.cell? ⟨w.heap.size, 8, none⟩ = _ := cell_of_row _ _ 8 _ _ _ HX12.out.r0
                  have q0 : w12.cell? ⟨w.heap.size + 1, 0, none⟩ = _ := cell_of_row _ _ 0 _ _ _ HX12.out.r1
                  have q1 : w12.cell? ⟨w.heap.size + 1, 1, none⟩ = _ := cell_of_row _ _ 1 _ _ _ HX12.out.r1
                  have q2 : w12.cell? ⟨w.heap.size + 1, 2, none⟩ = _ := cell_of_row _ _ 2 _ _ _ HX12.out.r1
                  have q3 : w12.cell? ⟨w.heap.size + 1, 3, none⟩ = _ := cell_of_row _ _ 3 _ _ _ HX12.out.r1
                  have q4 : w12.cell? ⟨w.heap.size + 1, 4, none⟩ = _ := cell_of_row _ _ 4 _ _ _ HX12.out.r1
                  have q5 : w12.cell? ⟨w.heap.size + 1, 5, none⟩ = _ := cell_of_row _ _ 5 _ _ _ HX12.out.r1
                  have q6 : w12.cell? ⟨w.heap.size + 1, 6, none⟩ = _ := cell_of_row _ _ 6 _ _ _ HX12.out.r1
                  have q7 : w12.cell? ⟨w.heap.size + 1, 7, none⟩ = _ := cell_of_row _ _ 7 _ _ _ HX12.out.r1
                  have q8 : w12.cell? ⟨w.heap.size + 1, 8, none⟩ = _ := cell_of_row _ _ 8 _ _ _ HX12.out.r1
                  have r0 : w12.cell? ⟨w.heap.size + 1 + 1, 0, none⟩ = _ := cell_of_row _ _ 0 _ _ _ HX12.out.r2
                  have r1 : w12.cell? ⟨w.heap.size + 1 + 1, 1, none⟩ = _ := cell_of_row _ _ 1 _ _ _ HX12.out.r2
                  have r2 : w12.cell? ⟨w.heap.size + 1 + 1, 2, none⟩ = _ := cell_of_row _ _ 2 _ _ _ HX12.out.r2
                  have r3 : w12.cell? ⟨w.heap.size + 1 + 1, 3, none⟩ = _ := cell_of_row _ _ 3 _ _ _ HX12.out.r2
                  have r4 : w12.cell? ⟨w.heap.size + 1 + 1, 4, none⟩ = _ := cell_of_row _ _ 4 _ _ _ HX12.out.r2
                  have r5 : w12.cell? ⟨w.heap.size + 1 + 1, 5, none⟩ = _ := cell_of_row _ _ 5 _ _ _ HX12.out.r2
                  have r6 : w12.cell? ⟨w.heap.size + 1 + 1, 6, none⟩ = _ := cell_of_row _ _ 6 _ _ _ HX12.out.r2
                  have r7 : w12.cell? ⟨w.heap.size + 1 + 1, 7, none⟩ = _ := cell_of_row _ _ 7 _ _ _ HX12.out.r2
                  have r8 : w12.cell? ⟨w.heap.size + 1 + 1, 8, none⟩ = _ := cell_of_row _ _ 8 _ _ _ HX12.out.r2
                  go_wp2_with fail
                  go_ret
                  exact ⟨by first | rfl | simp, HX12.out.below⟩
                | false =>
                  go_wp2_with fail
                  refine (HP.out (by first | trivial | rfl) (by first | trivial | rfl) _ HX9.out.below).mono ?_
                  rintro e w10 ⟨rfl, hq⟩
                  have HX10 := Hid.mk (HX9.out.keep hq)
                  clear hq
                  clear p0 p1 p2 p3 p4 p5 p6 p7 p8 q0 q1 q2 q3 q4 q5 q6 q7 q8 r0 r1 r2 r3 r4 r5 r6 r7 r8
                  have p0 : w10.cell? ⟨w.heap.size, 0, none⟩ = _ := cell_of_row _ _ 0 _ _ _ HX10.out.r0
                  have p1 : w10.cell? ⟨w.heap.size, 1, none⟩ = _ := cell_of_row _ _ 1 _ _ _ HX10.out.r0
                  have p2 : w10.cell? ⟨w.heap.size, 2, none⟩ = _ := cell_of_row _ _ 2 _ _ _ HX10.out.r0
                  have p3 : w10.cell? ⟨w.heap.size, 3, none⟩ = _ := cell_of_row _ _ 3 _ _ _ HX10.out.r0
                  have p4 : w10.cell? ⟨w.heap.size, 4, none⟩ = _ := cell_of_row _ _ 4 _ _ _ HX10.out.r0
                  have p5 : w10.cell? ⟨w.heap.size, 5, none⟩ = _ := cell_of_row _ _ 5 _ _ _ HX10.out.r0
                  have p6 : w10.cell? ⟨w.heap.size, 6, none⟩ = _ := cell_of_row _ _ 6 _ _ _ HX10.out.r0
                  have p7 : w10.cell? ⟨w.heap.size, 7, none⟩ = _ := cell_of_row _ _ 7 _ _ _ HX10.out.r0
                  have p8 : w10.cell? ⟨w.heap.size, 8, none⟩ = _ := cell_of_row _ _ 8 _ _ _ HX10.out.r0
                  have q0 : w10.cell? ⟨w.heap.size + 1, 0, none⟩ = _ := cell_of_row _ _ 0 _ _ _ HX10.out.r1
                  have q1 : w10.cell? ⟨w.heap.size + 1, 1, none⟩ = _ := cell_of_row _ _ 1 _ _ _ HX10.out.r1
                  have q2 : w10.cell? ⟨w.heap.size + 1, 2, none⟩ = _ := cell_of_row _ _ 2 _ _ _ HX10.out.r1
                  have q3 : w10.cell? ⟨w.heap.size + 1, 3, none⟩ = _ := cell_of_row _ _ 3 _ _ _ HX10.out.r1
                  have q4 : w10.cell? ⟨w.heap.size + 1, 4, none⟩ = _ := cell_of_row _ _ 4 _ _ _ HX10.out.r1
                  have q5 : w10.cell? ⟨w.heap.size + 1, 5, none⟩ = _ := cell_of_row _ _ 5 _ _ _ HX10.out.r1
                  have q6 : w10.cell? ⟨w.heap.size + 1, 6, none⟩ = _ := cell_of_row _ _ 6 _ _ _ HX10.out.r1
                  have q7 : w10.cell? ⟨w.heap.size + 1, 7, none⟩ = _ := cell_of_row _ _ 7 _ _ _ HX10.out.r1
                  have q8 : w10.cell? ⟨w.heap.size + 1, 8, none⟩ = _ := cell_of_row _ _ 8 _ _ _ HX10.out.r1
                  have r0 : w10.cell? ⟨w.heap.size + 1 + 1, 0, none⟩ = _ := cell_of_row _ _ 0 _ _ _ HX10.out.r2
                  have r1 : w10.cell? ⟨w.heap.size + 1 + 1, 1, none⟩ = _ := cell_of_row _ _ 1 _ _ _ HX10.out.r2
                  have r2 : w10.cell? ⟨w.heap.size + 1 + 1, 2, none⟩ = _ := cell_of_row _ _ 2 _ _ _ HX10.out.r2
                  have r3 : w10.cell? ⟨w.heap.size + 1 + 1, 3, none⟩ = _ := cell_of_row _ _ 3 _ _ _ HX10.out.r2
                  have r4 : w10.cell? ⟨w.heap.size + 1 + 1, 4, none⟩ = _ := cell_of_row _ _ 4 _ _ _ HX10.out.r2
                  have r5 : w10.cell? ⟨w.heap.size + 1 + 1, 5, none⟩ = _ := cell_of_row _ _ 5 _ _ _ HX10.out.r2
                  have r6 : w10.cell? ⟨w.heap.size + 1 + 1, 6, none⟩ = _ := cell_of_row _ _ 6 _ _ _ HX10.out.r2
                  have r7 : w10.cell? ⟨w.heap.size + 1 + 1, 7, none⟩ = _ := cell_of_row _ _ 7 _ _ _ HX10.out.r2
                  have r8 : w10.cell? ⟨w.heap.size + 1 + 1, 8, none⟩ = _ := cell_of_row _ _ 8 _ _ _ HX10.out.r2
                  go_wp2_with fail
                  refine (HQ.out (by first | trivial | rfl) (by first | trivial | rfl) _ HX10.out.below).mono ?_
                  rintro e w11 ⟨rfl, hq⟩
                  have HX11 := Hid.mk (HX10.out.keep hq)
                  clear hq
                  clear p0 p1 p2 p3 p4 p5 p6 p7 p8 q0 q1 q2 q3 q4 q5 q6 q7 q8 r0 r1 r2 r3 r4 r5 r6 r7 r8
                  have p0 : w11.cell? ⟨w.heap.size, 0, none⟩ = _ := cell_of_row _ _ 0 _ _ _ HX11.out.r0
                  have p1 : w11.cell? ⟨w.heap.size, 1, none⟩ = _ := cell_of_row _ _ 1 _ _ _ HX11.out.r0
                  have p2 : w11.cell? ⟨w.heap.size, 2, none⟩ = _ := cell_of_row _ _ 2 _ _ _ HX11.out.r0
                  have p3 : w11.cell? ⟨w.heap.size, 3, none⟩ = _ := cell_of_row _ _ 3 _ _ _ HX11.out.r0
                  have p4 : w11.cell? ⟨w.heap.size, 4, none⟩ = _ := cell_of_row _ _ 4 _ _ _ HX11.out.r0
                  have p5 : w11.cell? ⟨w.heap.size, 5, none⟩ = _ := cell_of_row _ _ 5 _ _ _ HX11.out.r0
                  have p6 : w11.cell? ⟨w.heap.size, 6, none⟩ = _ := cell_of_row _ _ 6 _ _ _ HX11.out.r0
                  have p7 : w11.cell? ⟨w.heap.size, 7, none⟩ = _ := cell_of_row _ _ 7 _ _ _ HX11.out.r0
                  have p8 : w11.cell? ⟨w.heap.size, 8, none⟩ = _ := cell_of_row _ _ 8 _ _ _ HX11.out.r0
                  have q0 : w11.cell? ⟨w.heap.size + 1, 0, none⟩ = _ := cell_of_row _ _ 0 _ _ _ HX11.out.r1
                  have q1 : w11.cell? ⟨w.heap.size + 1, 1, none⟩ = _ := cell_of_row _ _ 1 _ _ _ HX11.out.r1
                  have q2 : w11.cell? ⟨w.heap.size + 1, 2, none⟩ = _ := cell_of_row _ _ 2 _ _ _ HX11.out.r1
                  have q3 : w11.cell? ⟨w.heap.size + 1, 3, none⟩ = _ := cell_of_row _ _ 3 _ _ _ HX11.out.r1
                  have q4 : w11.cell? ⟨w.heap.size + 1, 4, none⟩ = _ := cell_of_row _ _ 4 _ _ _ HX11.out.r1
                  have q5 : w11.cell? ⟨w.heap.size + 1, 5, none⟩ = _ := cell_of_row _ _ 5 _ _ _ HX11.out.r1
                  have q6 : w11.cell? ⟨w.heap.size + 1, 6, none⟩ = _ := cell_of_row _ _ 6 _ _ _ HX11.out.r1
                  have q7 : w11.cell? ⟨w.heap.size + 1, 7, none⟩ = _ := cell_of_row _ _ 7 _ _ _ HX11.out.r1
                  have q8 : w11.cell? ⟨w.heap.size + 1, 8, none⟩ = _ := cell_of_row _ _ 8 _ _ _ HX11.out.r1
                  have r0 : w11.cell? ⟨w.heap.size + 1 + 1, 0, none⟩ = _ := cell_of_row _ _ 0 _ _ _ HX11.out.r2
                  have r1 : w11.cell? ⟨w.heap.size + 1 + 1, 1, none⟩ = _ := cell_of_row _ _ 1 _ _ _ HX11.out.r2
                  have r2 : w11.cell? ⟨w.heap.size + 1 + 1, 2, none⟩ = _ := cell_of_row _ _ 2 _ _ _ HX11.out.r2
                  have r3 : w11.cell? ⟨w.heap.size + 1 + 1, 3, none⟩ = _ := cell_of_row _ _ 3 _ _ _ HX11.out.r2
                  have r4 : w11.cell? ⟨w.heap.size + 1 + 1, 4, none⟩ = _ := cell_of_row _ _ 4 _ _ _ HX11.out.r2
                  have r5 : w11.cell? ⟨w.heap.size + 1 + 1, 5, none⟩ = _ := cell_of_row _ _ 5 _ _ _ HX11.out.r2
                  have r6 : w11.cell? ⟨w.heap.size + 1 + 1, 6, none⟩ = _ := cell_of_row _ _ 6 _ _ _ HX11.out.r2
                  have r7 : w11.cell? ⟨w.heap.size + 1 + 1, 7, none⟩ = _ := cell_of_row _ _ 7 _ _ _ HX11.out.r2
                  have r8 : w11.cell? ⟨w.heap.size + 1 + 1, 8, none⟩ = _ := cell_of_row _ _ 8 _ _ _ HX11.out.r2
                  go_wp2_with fail
                  go_ret
                  exact ⟨by first | rfl | simp, HX11.out.below⟩
            | false =>
              cases x with
              | true =>
                go_wp2_with fail
                refine (HP.out (by first | trivial | rfl) (by first | trivial | rfl) _ HX8.out.below).mono ?_
                rintro e w9 ⟨rfl, hq⟩
                have HX9 := Hid.mk (HX8.out.keep hq)
                clear hq
                clear p0 p1 p2 p3 p4 p5 p6 p7 p8 q0 q1 q2 q3 q4 q5 q6 q7 q8 r0 r1 r2 r3 r4 r5 r6 r7 r8
                have p0 : w9.cell? ⟨w.heap.size, 0, none⟩ = _ := cell_of_row _ _ 0 _ _ _ HX9.out.r0
                have p1 : w9.cell? ⟨w.heap.size, 1, none⟩ = _ := cell_of_row _ _ 1 _ _ _ HX9.out.r0
                have p2 : w9.cell? ⟨w.heap.size, 2, none⟩ = _ := cell_of_row _ _ 2 _ _ _ HX9.out.r0
                have p3 : w9.cell? ⟨w.heap.size, 3, none⟩ = _ := cell_of_row _ _ 3 _ _ _ HX9.out.r0
                have p4 : w9.cell? ⟨w.heap.size, 4, none⟩ = _ := cell_of_row _ _ 4 _ _ _ HX9.out.r0
                have p5 : w9.cell? ⟨w.heap.size, 5, none⟩ = _ := cell_of_row _ _ 5 _ _ _ HX9.out.r0
                have p6 : w9.cell? ⟨w.heap.size, 6, none⟩ = _ := cell_of_row _ _ 6 _ _ _ HX9.out.r0
                have p7 : w9.cell? ⟨w.heap.size, 7, none⟩ = _ := cell_of_row _ _ 7 _ _ _ HX9.out.r0
                have p8 : w9.cell? ⟨w.heap.size, 8, none⟩ = _ := cell_of_row _ _ 8 _ _ _ HX9.out.r0
                have q0 : w9.cell? ⟨w.heap.size + 1, 0, none⟩ = _ := cell_of_row _ _ 0 _ _ _ HX9.out.r1
                have q1 : w9.cell? ⟨w.heap.size + 1, 1, none⟩ = _ := cell_of_row _ _ 1 _ _ _ HX9.out.r1
                have q2 : w9.cell? ⟨w.heap.size + 1, 2, none⟩ = _ := cell_of_row _ _ 2 _ _ _ HX9.out.r1
                have q3 : w9.cell? ⟨w.heap.size + 1, 3, none⟩ = _ := cell_of_row _ _ 3 _ _ _ HX9.out.r1
                have q4 : w9.cell? ⟨w.heap.size + 1, 4, none⟩ = _ := cell_of_row _ _ 4 _ _ _ HX9.out.r1
                have q5 : w9.cell? ⟨w.heap.size + 1, 5, none⟩ = _ := cell_of_row _ _ 5 _ _ _ HX9.out.r1
                have q6 : w9.cell? ⟨w.heap.size + 1, 6, none⟩ = _ := cell_of_row _ _ 6 _ _ _ HX9.out.r1
                have q7 : w9.cell? ⟨w.heap.size + 1, 7, none⟩ = _ := cell_of_row _ _ 7 _ _ _ HX9.out.r1
                have q8 : w9.cell? ⟨w.heap.size + 1, 8, none⟩ = _ := cell_of_row _ _ 8 _ _ _ HX9.out.r1
                have r0 : w9.cell? ⟨w.heap.size + 1 + 1, 0, none⟩ = _ := cell_of_row _ _ 0 _ _ _ HX9.out.r2
                have r1 : w9.cell? ⟨w.heap.size + 1 + 1, 1, none⟩ = _ := cell_of_row _ _ 1 _ _ _ HX9.out.r2
                have r2 : w9.cell? ⟨w.heap.size + 1 + 1, 2, none⟩ = _ := cell_of_row _ _ 2 _ _ _ HX9.out.r2
                have r3 : w9.cell? ⟨w.heap.size + 1 + 1, 3, none⟩ = _ := cell_of_row _ _ 3 _ _ _ HX9.out.r2
                have r4 : w9.cell? ⟨w.heap.size + 1 + 1, 4, none⟩ = _ := cell_of_row _ _ 4 _ _ _ HX9.out.r2
                have r5 : w9.cell? ⟨w.heap.size + 1 + 1, 5, none⟩ = _ := cell_of_row _ _ 5 _ _ _ HX9.out.r2
                have r6 : w9.cell? ⟨w.heap.size + 1 + 1, 6, none⟩ = _ := cell_of_row _ _ 6 _ _ _ HX9.out.r2
                have r7 : w9.cell? ⟨w.heap.size + 1 + 1, 7, none⟩ = _ := cell_of_row _ _ 7 _ _ _ HX9.out.r2
                have r8 : w9.cell? ⟨w.heap.size + 1 + 1, 8, none⟩ = _ := cell_of_row _ _ 8 _ _ _ HX9.out.r2
                go_wp2_with fail
                refine (HQ.out (by first | trivial | rfl) (by first | trivial | rfl) _ HX9.out.below).mono ?_
                rintro e w10 ⟨rfl, hq⟩
                have HX10 := Hid.mk (HX9.out.keep hq)
                clear hq
                clear p0 p1 p2 p3 p4 p5 p6 p7 p8 q0 q1 q2 q3 q4 q5 q6 q7 q8 r0 r1 r2 r3 r4 r5 r6 r7 r8
                have p0 : w10.cell? ⟨w.heap.size, 0, none⟩ = _ := cell_of_row _ _ 0 _ _ _ HX10.out.r0
                have p1 : w10.cell? ⟨w.heap.size, 1, none⟩ = _ := cell_of_row _ _ 1 _ _ _ HX10.out.r0
                have p2 : w10.cell? ⟨w.heap.size, 2, none⟩ = _ := cell_of_row _ _ 2 _ _ _ HX10.out.r0
                have p3 : w10.cell? ⟨w.heap.size, 3, none⟩ = _ := cell_of_row _ _ 3 _ _ _ HX10.out.r0
                have p4 : w10.cell? ⟨w.heap.size, 4, none⟩ = _ := cell_of_row _ _ 4 _ _ _ HX10.out.r0
                have p5 : w10.cell? ⟨w.heap.size, 5, none⟩ = _ := cell_of_row _ _ 5 _ _ _ HX10.out.r0
                have p6 : w10.cell? ⟨w.heap.size, 6, none⟩ = _ := cell_of_row _ _ 6 _ _ _ HX10.out.r0
                have p7 : w10.cell? ⟨w.heap.size, 7, none⟩ = _ := cell_of_row _ _ 7 _ _ _ HX10.out.r0
                have p8 : w10.cell? ⟨w.heap.size, 8, none⟩ = _ := cell_of_row _ _ 8 _ _ _ HX10.out.r0
                have q0 : w10.cell? ⟨w.heap.size + 1, 0, none⟩ = _ := cell_of_row _ _ 0 _ _ _ HX10.out.r1
                have q1 : w10.cell? ⟨w.heap.size + 1, 1, none⟩ = _ := cell_of_row _ _ 1 _ _ _ HX10.out.r1
                have q2 : w10.cell? ⟨w.heap.size + 1, 2, none⟩ = _ := cell_of_row _ _ 2 _ _ _ HX10.out.r1
                have q3 : w10.cell? ⟨w.heap.size + 1, 3, none⟩ = _ := cell_of_row _ _ 3 _ _ _ HX10.out.r1
                have q4 : w10.cell? ⟨w.heap.size + 1, 4, none⟩ = _ := cell_of_row _ _ 4 _ _ _ HX10.out.r1
                have q5 : w10.cell? ⟨w.heap.size + 1, 5, none⟩ = _ := cell_of_row _ _ 5 _ _ _ HX10.out.r1
                have q6 : w10.cell? ⟨w.heap.size + 1, 6, none⟩ = _ := cell_of_row _ _ 6 _ _ _ HX10.out.r1
                have q7 : w10.cell? ⟨w.heap.size + 1, 7, none⟩ = _ := cell_of_row _ _ 7 _ _ _ HX10.out.r1
                have q8 : w10.cell? ⟨w.heap.size + 1, 8, none⟩ = _ := cell_of_row _ _ 8 _ _ _ HX10.out.r1
                have r0 : w10.cell? ⟨w.heap.size + 1 + 1, 0, none⟩ = _ := cell_of_row _ _ 0 _ _ _ HX10.out.r2
                have r1 : w10.cell? ⟨w.heap.size + 1 + 1, 1, none⟩ = _ := cell_of_row _ _ 1 _ _ _ HX10.out.r2
                have r2 : w10.cell? ⟨w.heap.size + 1 + 1, 2, none⟩ = _ := cell_of_row _ _ 2 _ _ _ HX10.out.r2
                have r3 : w10.cell? ⟨w.heap.size + 1 + 1, 3, none⟩ = _ := cell_of_row _ _ 3 _ _ _ HX10.out.r2
                have r4 : w10.cell? ⟨w.heap.size + 1 + 1, 4, none⟩ = _ := cell_of_row _ _ 4 _ _ _ HX10.out.r2
                have r5 : w10.cell? ⟨w.heap.size + 1 + 1, 5, none⟩ = _ := cell_of_row _ _ 5 _ _ _ HX10.out.r2
                have r6 : w10.cell? ⟨w.heap.size + 1 + 1, 6, none⟩ = _ := cell_of_row _ _ 6 _ _ _ HX10.out.r2
                have r7 : w10.cell? ⟨w.heap.size + 1 + 1, 7, none⟩ = _ := cell_of_row _ _ 7 _ _ _ HX10.out.r2
                have r8 : w10.cell? ⟨w.heap.size + 1 + 1, 8, none⟩ = _ := cell_of_row _ _ 8 _ _ _ HX10.out.r2
                obtain rfl : y = true := HEE.out.2 (by first | trivial | rfl) (by first | trivial | rfl)
                go_wp2_with fail
                refine (HR.out (by first | trivial | rfl) (by first | trivial | rfl) _ HX10.out.below).mono ?_
                rintro e w11 ⟨rfl, hq⟩
                have HX11 := Hid.mk (HX10.out.keep hq)
                clear hq
                clear p0 p1 p2 p3 p4 p5 p6 p7 p8 q0 q1 q2 q3 q4 q5 q6 q7 q8 r0 r1 r2 r3 r4 r5 r6 r7 r8
                have p0 : w11.cell? ⟨w.heap.size, 0, none⟩ = _ := cell_of_row _ _ 0 _ _ _ HX11.out.r0
                have p1 : w11.cell? ⟨w.heap.size, 1, none⟩ = _ := cell_of_row _ _ 1 _ _ _ HX11.out.r0
                have p2 : w11.cell? ⟨w.heap.size, 2, none⟩ = _ := cell_of_row _ _ 2 _ _ _ HX11.out.r0
                have p3 : w11.cell? ⟨w.heap.size, 3, none⟩ = _ := cell_of_row _ _ 3 _ _ _ HX11.out.r0
                have p4 : w11.cell? ⟨w.heap.size, 4, none⟩ = _ := cell_of_row _ _ 4 _ _ _ HX11.out.r0
                have p5 : w11.cell? ⟨w.heap.size, 5, none⟩ = _ := cell_of_row _ _ 5 _ _ _ HX11.out.r0
                have p6 : w11.cell? ⟨w.heap.size, 6, none⟩ = _ := cell_of_row _ _ 6 _ _ _ HX11.out.r0
                have p7 : w11.cell? ⟨w.heap.size, 7, none⟩ = _ := cell_of_row _ _ 7 _ _ _ HX11.out.r0
                have p8 : w11.cell? ⟨w.heap.size, 8, none⟩ = _ := cell_of_row _ _ 8 _ _ _ HX11.out.r0
                have q0 : w11.cell? ⟨w.heap.size + 1, 0, none⟩ = _ := cell_of_row _ _ 0 _ _ _ HX11.out.r1
                have q1 : w11.cell? ⟨w.heap.size + 1, 1, none⟩ = _ := cell_of_row _ _ 1 _ _ _ HX11.out.r1
                have q2 : w11.cell? ⟨w.heap.size + 1, 2, none⟩ = _ := cell_of_row _ _ 2 _ _ _ HX11.out.r1
                have q3 : w11.cell? ⟨w.heap.size + 1, 3, none⟩ = _ := cell_of_row _ _ 3 _ _ _ HX11.out.r1
                have q4 : w11.cell? ⟨w.heap.size + 1, 4, none⟩ = _ := cell_of_row _ _ 4 _ _ _ HX11.out.r1
                have q5 : w11.cell? ⟨w.heap.size + 1, 5, none⟩ = _ := cell_of_row _ _ 5 _ _ _ HX11.out.r1
                have q6 : w11.cell? ⟨w.heap.size + 1, 6, none⟩ = _ := cell_of_row _ _ 6 _ _ _ HX11.out.r1
                have q7 : w11.cell? ⟨w.heap.size + 1, 7, none⟩ = _ := cell_of_row _ _ 7 _ _ _ HX11.out.r1
                have q8 : w11.cell? ⟨w.heap.size + 1, 8, none⟩ = _ := cell_of_row _ _ 8 _ _ _ HX11.out.r1
                have r0 : w11.cell? ⟨w.heap.size + 1 + 1, 0, none⟩ = _ := cell_of_row _ _ 0 _ _ _ HX11.out.r2
                have r1 : w11.cell? ⟨w.heap.size + 1 + 1, 1, none⟩ = _ := cell_of_row _ _ 1 _ _ _ HX11.out.r2
                have r2 : w11.cell? ⟨w.heap.size + 1 + 1, 2, none⟩ = _ := cell_of_row _ _ 2 _ _ _ HX11.out.r2
                have r3 : w11.cell? ⟨w.heap.size + 1 + 1, 3, none⟩ = _ := cell_of_row _ _ 3 _ _ _ HX11.out.r2
                have r4 : w11.cell? ⟨w.heap.size + 1 + 1, 4, none⟩ = _ := cell_of_row _ _ 4 _ _ _ HX11.out.r2
                have r5 : w11.cell? ⟨w.heap.size + 1 + 1, 5, none⟩ = _ := cell_of_row _ _ 5 _ _ _ HX11.out.r2
                have r6 : w11.cell? ⟨w.heap.size + 1 + 1, 6, none⟩ = _ := cell_of_row _ _ 6 _ _ _ HX11.out.r2
                have r7 : w11.cell? ⟨w.heap.size + 1 + 1, 7, none⟩ = _ := cell_of_row _ _ 7 _ _ _ HX11.out.r2
                have r8 : w11.cell? ⟨w.heap.size + 1 + 1, 8, none⟩ = _ := cell_of_row _ _ 8 _ _ _ HX11.out.r2
                go_wp2_with fail
                go_ret
                exact ⟨by first | rfl | simp, HX11.out.below⟩
              | false =>
                go_wp2_with fail
                refine (HP.out (by first | trivial | rfl) (by first | trivial | rfl) _ HX8.out.below).mono ?_
                rintro e w9 ⟨rfl, hq⟩
                have HX9 := Hid.mk (HX8.out.keep hq)
                clear hq
                clear p0 p1 p2 p3 p4 p5 p6 p7 p8 q0 q1 q2 q3 q4 q5 q6 q7 q8 r0 r1 r2 r3 r4 r5 r6 r7 r8
                have p0 : w9.cell? ⟨w.heap.size, 0, none⟩ = _ := cell_of_row _ _ 0 _ _ _ HX9.out.r0
                have p1 : w9.cell? ⟨w.heap.size, 1, none⟩ = _ := cell_of_row _ _ 1 _ _ _ HX9.out.r0
                have p2 : w9.cell? ⟨w.heap.size, 2, none⟩ = _ := cell_of_row _ _ 2 _ _ _ HX9.out.r0
                have p3 : w9.cell? ⟨w.heap.size, 3, none⟩ = _ := cell_of_row _ _ 3 _ _ _ HX9.out.r0
                have p4 : w9.cell? ⟨w.heap.size, 4, none⟩ = _ := cell_of_row _ _ 4 _ _ _ HX9.out.r0
                have p5 : w9.cell? ⟨w.heap.size, 5, none⟩ = _ := cell_of_row _ _ 5 _ _ _ HX9.out.r0
                have p6 : w9.cell? ⟨w.heap.size, 6, none⟩ = _ := cell_of_row _ _ 6 _ _ _ HX9.out.r0
                have p7 : w9.cell? ⟨w.heap.size, 7, none⟩ = _ := cell_of_row _ _ 7 _ _ _ HX9.out.r0
                have p8 : w9.cell? ⟨w.heap.size, 8, none⟩ = _ := cell_of_row _ _ 8 _ _ _ HX9.out.r0
                have q0 : w9.cell? ⟨w.heap.size + 1, 0, none⟩ = _ := cell_of_row _ _ 0 _ _ _ HX9.out.r1
                have q1 : w9.cell? ⟨w.heap.size + 1, 1, none⟩ = _ := cell_of_row _ _ 1 _ _ _ HX9.out.r1
                have q2 : w9.cell? ⟨w.heap.size + 1, 2, none⟩ = _ := cell_of_row _ _ 2 _ _ _ HX9.out.r1
                have q3 : w9.cell? ⟨w.heap.size + 1, 3, none⟩ = _ := cell_of_row _ _ 3 _ _ _ HX9.out.r1
                have q4 : w9.cell? ⟨w.heap.size + 1, 4, none⟩ = _ := cell_of_row _ _ 4 _ _ _ HX9.out.r1
                have q5 : w9.cell? ⟨w.heap.size + 1, 5, none⟩ = _ := cell_of_row _ _ 5 _ _ _ HX9.out.r1
                have q6 : w9.cell? ⟨w.heap.size + 1, 6, none⟩ = _ := cell_of_row _ _ 6 _ _ _ HX9.out.r1
                have q7 : w9.cell? ⟨w.heap.size + 1, 7, none⟩ = _ := cell_of_row _ _ 7 _ _ _ HX9.out.r1
                have q8 : w9.cell? ⟨w.heap.size + 1, 8, none⟩ = _ := cell_of_row _ _ 8 _ _ _ HX9.out.r1
                have r0 : w9.cell? ⟨w.heap.size + 1 + 1, 0, none⟩ = _ := cell_of_row _ _ 0 _ _ _ HX9.out.r2
                have r1 : w9.cell? ⟨w.heap.size + 1 + 1, 1, none⟩ = _ := cell_of_row _ _ 1 _ _ _ HX9.out.r2
                have r2 : w9.cell? ⟨w.heap.size + 1 + 1, 2, none⟩ = _ := cell_of_row _ _ 2 _ _ _ HX9.out.r2
                have r3 : w9.cell? ⟨w.heap.size + 1 + 1, 3, none⟩ = _ := cell_of_row _ _ 3 _ _ _ HX9.out.r2
                have r4 : w9.cell? ⟨w.heap.size + 1 + 1, 4, none⟩ = _ := cell_of_row _ _ 4 _ _ _ HX9.out.r2
                have r5 : w9.cell? ⟨w.heap.size + 1 + 1, 5, none⟩ = _ := cell_of_row _ _ 5 _ _ _ HX9.out.r2
                have r6 : w9.cell? ⟨w.heap.size + 1 + 1, 6, none⟩ = _ := cell_of_row _ _ 6 _ _ _ HX9.out.r2
                have r7 : w9.cell? ⟨w.heap.size + 1 + 1, 7, none⟩ = _ := cell_of_row _ _ 7 _ _ _ HX9.out.r2
                have r8 : w9.cell? ⟨w.heap.size + 1 + 1, 8, none⟩ = _ := cell_of_row _ _ 8 _ _ _ HX9.out.r2
                go_wp2_with fail
                refine (HQ.out (by first | trivial | rfl) (by first | trivial | rfl) _ HX9.out.below).mono ?_
                rintro e w10 ⟨rfl, hq⟩
                have HX10 := Hid.mk (HX9.out.keep hq)
                clear hq
                clear p0 p1 p2 p3 p4 p5 p6 p7 p8 q0 q1 q2 q3 q4 q5 q6 q7 q8 r0 r1 r2 r3 r4 r5 r6 r7 r8
                have p0 : w10.cell? ⟨w.heap.size, 0, none⟩ = _ := cell_of_row _ _ 0 _ _ _ HX10.out.r0
                have p1 : w10.cell? ⟨w.heap.size, 1, none⟩ = _ := cell_of_row _ _ 1 _ _ _ HX10.out.r0
                have p2 : w10.cell? ⟨w.heap.size, 2, none⟩ = _ := cell_of_row _ _ 2 _ _ _ HX10.out.r0
                have p3 : w10.cell? ⟨w.heap.size, 3, none⟩ = _ := cell_of_row _ _ 3 _ _ _ HX10.out.r0
                have p4 : w10.cell? ⟨w.heap.size, 4, none⟩ = _ := cell_of_row _ _ 4 _ _ _ HX10.out.r0
                have p5 : w10.cell? ⟨w.heap.size, 5, none⟩ = _ := cell_of_row _ _ 5 _ _ _ HX10.out.r0
                have p6 : w10.cell? ⟨w.heap.size, 6, none⟩ = _ := cell_of_row _ _ 6 _ _ _ HX10.out.r0
                have p7 : w10.cell? ⟨w.heap.size, 7, none⟩ = _ := cell_of_row _ _ 7 _ _ _ HX10.out.r0
                have p8 : w10.cell? ⟨w.heap.size, 8, none⟩ = _ := cell_of_row _ _ 8 _ _ _ HX10.out.r0
                have q0 : w10.cell? ⟨w.heap.size + 1, 0, none⟩ = _ := cell_of_row _ _ 0 _ _ _ HX10.out.r1
                have q1 : w10.cell? ⟨w.heap.size + 1, 1, none⟩ = _ := cell_of_row _ _ 1 _ _ _ HX10.out.r1
                have q2 : w10.cell? ⟨w.heap.size + 1, 2, none⟩ = _ := cell_of_row _ _ 2 _ _ _ HX10.out.r1
                have q3 : w10.cell? ⟨w.heap.size + 1, 3, none⟩ = _ := cell_of_row _ _ 3 _ _ _ HX10.out.r1
                have q4 : w10.cell? ⟨w.heap.size + 1, 4, none⟩ = _ := cell_of_row _ _ 4 _ _ _ HX10.out.r1
                have q5 : w10.cell? ⟨w.heap.size + 1, 5, none⟩ = _ := cell_of_row _ _ 5 _ _ _ HX10.out.r1
                have q6 : w10.cell? ⟨w.heap.size + 1, 6, none⟩ = _ := cell_of_row _ _ 6 _ _ _ HX10.out.r1
                have q7 : w10.cell? ⟨w.heap.size + 1, 7, none⟩ = _ := cell_of_row _ _ 7 _ _ _ HX10.out.r1
                have q8 : w10.cell? ⟨w.heap.size + 1, 8, none⟩ = _ := cell_of_row _ _ 8 _ _ _ HX10.out.r1
                have r0 : w10.cell? ⟨w.heap.size + 1 + 1, 0, none⟩ = _ := cell_of_row _ _ 0 _ _ _ HX10.out.r2
                have r1 : w10.cell? ⟨w.heap.size + 1 + 1, 1, none⟩ = _ := cell_of_row _ _ 1 _ _ _ HX10.out.r2
                have r2 : w10.cell? ⟨w.heap.size + 1 + 1, 2, none⟩ = _ := cell_of_row _ _ 2 _ _ _ HX10.out.r2
                have r3 : w10.cell? ⟨w.heap.size + 1 + 1, 3, none⟩ = _ := cell_of_row _ _ 3 _ _ _ HX10.out.r2
                have r4 : w10.cell? ⟨w.heap.size + 1 + 1, 4, none⟩ = _ := cell_of_row _ _ 4 _ _ _ HX10.out.r2
                have r5 : w10.cell? ⟨w.heap.size + 1 + 1, 5, none⟩ = _ := cell_of_row _ _ 5 _ _ _ HX10.out.r2
                have r6 : w10.cell? ⟨w.heap.size + 1 + 1, 6, none⟩ = _ := cell_of_row _ _ 6 _ _ _ HX10.out.r2
                have r7 : w10.cell? ⟨w.heap.size + 1 + 1, 7, none⟩ = _ := cell_of_row _ _ 7 _ _ _ HX10.out.r2
                have r8 : w10.cell? ⟨w.heap.size + 1 + 1, 8, none⟩ = _ := cell_of_row _ _ 8 _ _ _ HX10.out.r2
                go_wp2_with fail
                go_ret
                exact ⟨by first | rfl | simp, HX10.out.below⟩
          | false =>
            cases x with
            | true =>
              go_wp2_with fail
              refine (HP.out (by first | trivial | rfl) (by first | trivial | rfl) _ HX7.out.below).mono ?_
              rintro e w8 ⟨rfl, hq⟩
              have HX8 := Hid.mk (HX7.out.keep hq)
              clear hq
              clear p0 p1 p2 p3 p4 p5 p6 p7 p8 q0 q1 q2 q3 q4 q5 q6 q7 q8 r0 r1 r2 r3 r4 r5 r6 r7 r8
              have p0 : w8.cell? ⟨w.heap.size, 0, none⟩ = _ := cell_of_row _ _ 0 _ _ _ HX8.out.r0
              have p1 : w8.cell? ⟨w.heap.size, 1, none⟩ = _ := cell_of_row _ _ 1 _ _ _ HX8.out.r0
              have p2 : w8.cell? ⟨w.heap.size, 2, none⟩ = _ := cell_of_row _ _ 2 _ _ _ HX8.out.r0
              have p3 : w8.cell? ⟨w.heap.size, 3, none⟩ = _ := cell_of_row _ _ 3 _ _ _ HX8.out.r0
              have p4 : w8.cell? ⟨w.heap.size, 4, none⟩ = _ := cell_of_row _ _ 4 _ _ _ HX8.out.r0
              have p5 : w8.cell? ⟨w.heap.size, 5, none⟩ = _ := cell_of_row _ _ 5 _ _ _ HX8.out.r0
              have p6 : w8.cell? ⟨w.heap.size, 6, none⟩ = _ := cell_of_row _ _ 6 _ _ _ HX8.out.r0
              have p7 : w8.cell? ⟨w.heap.size, 7, none⟩ = _ := cell_of_row _ _ 7 _ _ _ HX8.out.r0
              have p8 : w8.cell? ⟨w.heap.size, 8, none⟩ = _ := cell_of_row _ _ 8 _ _ _ HX8.out.r0
              have q0 : w8.cell? ⟨w.heap.size + 1, 0, none⟩ = _ := cell_of_row _ _ 0 _ _ _ HX8.out.r1
              have q1 : w8.cell? ⟨w.heap.size + 1, 1, none⟩ = _ := cell_of_row _ _ 1 _ _ _ HX8.out.r1
              have q2 : w8.cell? ⟨w.heap.size + 1, 2, none⟩ = _ := cell_of_row _ _ 2 _ _ _ HX8.out.r1
              have q3 : w8.cell? ⟨w.heap.size + 1, 3, none⟩ = _ := cell_of_row _ _ 3 _ _ _ HX8.out.r1
              have q4 : w8.cell? ⟨w.heap.size + 1, 4, none⟩ = _ := cell_of_row _ _ 4 _ _ _ HX8.out.r1
              have q5 : w8.cell? ⟨w.heap.size + 1, 5, none⟩ = _ := cell_of_row _ _ 5 _ _ _ HX8.out.r1
              have q6 : w8.cell? ⟨w.heap.size + 1, 6, none⟩ = _ := cell_of_row _ _ 6 _ _ _ HX8.out.r1
              have q7 : w8.cell? ⟨w.heap.size + 1, 7, none⟩ = _ := cell_of_row _ _ 7 _ _ _ HX8.out.r1
              have q8 : w8.cell? ⟨w.heap.size + 1, 8, none⟩ = _ := cell_of_row _ _ 8 _ _ _ HX8.out.r1
              have r0 : w8.cell? ⟨w.heap.size + 1 + 1, 0, none⟩ = _ := cell_of_row _ _ 0 _ _ _ HX8.out.r2
              have r1 : w8.cell? ⟨w.heap.size + 1 + 1, 1, none⟩ = _ := cell_of_row _ _ 1 _ _ _ HX8.out.r2
              have r2 : w8.cell? ⟨w.heap.size + 1 + 1, 2, none⟩ = _ := cell_of_row _ _ 2 _ _ _ HX8.out.r2
              have r3 : w8.cell? ⟨w.heap.size + 1 + 1, 3, none⟩ = _ := cell_of_row _ _ 3 _ _ _ HX8.out.r2
              have r4 : w8.cell? ⟨w.heap.size + 1 + 1, 4, none⟩ = _ := cell_of_row _ _ 4 _ _ _ HX8.out.r2
              have r5 : w8.cell? ⟨w.heap.size + 1 + 1, 5, none⟩ = _ := cell_of_row _ _ 5 _ _ _ HX8.out.r2
              have r6 : w8.cell? ⟨w.heap.size + 1 + 1, 6, none⟩ = _ := cell_of_row _ _ 6 _ _ _ HX8.out.r2
              have r7 : w8.cell? ⟨w.heap.size + 1 + 1, 7, none⟩ = _ := cell_of_row _ _ 7 _ _ _ HX8.out.r2
              have r8 : w8.cell? ⟨w.heap.size + 1 + 1, 8, none⟩ = _ := cell_of_row _ _ 8 _ _ _ HX8.out.r2
              go_wp2_with fail
              refine (HQ.out (by first | trivial | rfl) (by first | trivial | rfl) _ HX8.out.below).mono ?_
              rintro e w9 ⟨rfl, hq⟩
              have HX9 := Hid.mk (HX8.out.keep hq)
              clear hq
              clear p0 p1 p2 p3 p4 p5 p6 p7 p8 q0 q1 q2 q3 q4 q5 q6 q7 q8 r0 r1 r2 r3 r4 r5 r6 r7 r8
              have p0 : w9.cell? ⟨w.heap.size, 0, none⟩ = _ := cell_of_row _ _ 0 _ _ _ HX9.out.r0
              have p1 : w9.cell? ⟨w.heap.size, 1, none⟩ = _ := cell_of_row _ _ 1 _ _ _ HX9.out.r0
              have p2 : w9.cell? ⟨w.heap.size, 2, none⟩ = _ := cell_of_row _ _ 2 _ _ _ HX9.out.r0
              have p3 : w9.cell? ⟨w.heap.size, 3, none⟩ = _ := cell_of_row _ _ 3 _ _ _ HX9.out.r0
              have p4 : w9.cell? ⟨w.heap.size, 4, none⟩ = _ := cell_of_row _ _ 4 _ _ _ HX9.out.r0
              have p5 : w9.cell? ⟨w.heap.size, 5, none⟩ = _ := cell_of_row _ _ 5 _ _ _ HX9.out.r0
              have p6 : w9.cell? ⟨w.heap.size, 6, none⟩ = _ := cell_of_row _ _ 6 _ _ _ HX9.out.r0
              have p7 : w9.cell? ⟨w.heap.size, 7, none⟩ = _ := cell_of_row _ _ 7 _ _ _ HX9.out.r0
              have p8 : w9.cell? ⟨w.heap.size, 8, none⟩ = _ := cell_of_row _ _ 8 _ _ _ HX9.out.r0
              have q0 : w9.cell? ⟨w.heap.size + 1, 0, none⟩ = _ := cell_of_row _ _ 0 _ _ _ HX9.out.r1
              have q1 : w9.cell? ⟨w.heap.size + 1, 1, none⟩ = _ := cell_of_row _ _ 1 _ _ _ HX9.out.r1
              have q2 : w9.cell? ⟨w.heap.size + 1, 2, none⟩ = _ := cell_of_row _ _ 2 _ _ _ HX9.out.r1
              have q3 : w9.cell? ⟨w.heap.size + 1, 3, none⟩ = _ := cell_of_row _ _ 3 _ _ _ HX9.out.r1
              have q4 : w9.cell? ⟨w.heap.size + 1, 4, none⟩ = _ := cell_of_row _ _ 4 _ _ _ HX9.out.r1
              have q5 : w9.cell? ⟨w.heap.size + 1, 5, none⟩ = _ := cell_of_row _ _ 5 _ _ _ HX9.out.r1
              have q6 : w9.cell? ⟨w.heap.size + 1, 6, none⟩ = _ := cell_of_row _ _ 6 _ _ _ HX9.out.r1
              have q7 : w9.cell? ⟨w.heap.size + 1, 7, none⟩ = _ := cell_of_row _ _ 7 _ _ _ HX9.out.r1
              have q8 : w9.cell? ⟨w.heap.size + 1, 8, none⟩ = _ := cell_of_row _ _ 8 _ _ _ HX9.out.r1
              have r0 : w9.cell? ⟨w.heap.size + 1 + 1, 0, none⟩ = _ := cell_of_row _ _ 0 _ _ _ HX9.out.r2
              have r1 : w9.cell? ⟨w.heap.size + 1 + 1, 1, none⟩ = _ := cell_of_row _ _ 1 _ _ _ HX9.out.r2
              have r2 : w9.cell? ⟨w.heap.size + 1 + 1, 2, none⟩ = _ := cell_of_row _ _ 2 _ _ _ HX9.out.r2
              have r3 : w9.cell? ⟨w.heap.size + 1 + 1, 3, none⟩ = _ := cell_of_row _ _ 3 _ _ _ HX9.out.r2
              have r4 : w9.cell? ⟨w.heap.size + 1 + 1, 4, none⟩ = _ := cell_of_row _ _ 4 _ _ _ HX9.out.r2
              have r5 : w9.cell? ⟨w.heap.size + 1 + 1, 5, none⟩ = _ := cell_of_row _ _ 5 _ _ _ HX9.out.r2
              have r6 : w9.cell? ⟨w.heap.size + 1 + 1, 6, none⟩ = _ := cell_of_row _ _ 6 _ _ _ HX9.out.r2
              have r7 : w9.cell? ⟨w.heap.size + 1 + 1, 7, none⟩ = _ := cell_of_row _ _ 7 _ _ _ HX9.out.r2
              have r8 : w9.cell? ⟨w.heap.size + 1 + 1, 8, none⟩ = _ := cell_of_row _ _ 8 _ _ _ HX9.out.r2
              obtain rfl : y = true := HEE.out.2 (by first | trivial | rfl) (by first | trivial | rfl)
              go_wp2_with fail
              refine (HR.out (by first | trivial | rfl) (by first | trivial | rfl) _ HX9.out.below).mono ?_
              rintro e w10 ⟨rfl, hq⟩
              have HX10 := Hid.mk (HX9.out.keep hq)
              clear hq
              clear p0 p1 p2 p3 p4 p5 p6 p7 p8 q0 q1 q2 q3 q4 q5 q6 q7 q8 r0 r1 r2 r3 r4 r5 r6 r7 r8
              have p0 : w10.cell? ⟨w.heap.size, 0, none⟩ = _ := cell_of_row _ _ 0 _ _ _ HX10.out.r0
              have p1 : w10.cell? ⟨w.heap.size, 1, none⟩ = _ := cell_of_row _ _ 1 _ _ _ HX10.out.r0
              have p2 : w10.cell? ⟨w.heap.size, 2, none⟩ = _ := cell_of_row _ _ 2 _ _ _ HX10.out.r0
              have p3 : w10.cell? ⟨w.heap.size, 3, none⟩ = _ := cell_of_row _ _ 3 _ _ _ HX10.out.r0
              have p4 : w10.cell? ⟨w.heap.size, 4, none⟩ = _ := cell_of_row _ _ 4 _ _ _ HX10.out.r0
              have p5 : w10.cell? ⟨w.heap.size, 5, none⟩ = _ := cell_of_row _ _ 5 _ _ _ HX10.out.r0
              have p6 : w10.cell? ⟨w.heap.size, 6, none⟩ = _ := cell_of_row _ _ 6 _ _ _ HX10.out.r0
              have p7 : w10.cell? ⟨w.heap.size, 7, none⟩ = _ := cell_of_row _ _ 7 _ _ _ HX10.out.r0
              have p8 : w10.cell? ⟨w.heap.size, 8, none⟩ = _ := cell_of_row _ _ 8 _ _ _ HX10.out.r0
              have q0 : w10.cell? ⟨w.heap.size + 1, 0, none⟩ = _ := cell_of_row _ _ 0 _ _ _ HX10.out.r1
              have q1 : w10.cell? ⟨w.heap.size + 1, 1, none⟩ = _ := cell_of_row _ _ 1 _ _ _ HX10.out.r1
              have q2 : w10.cell? ⟨w.heap.size + 1, 2, none⟩ = _ := cell_of_row _ _ 2 _ _ _ HX10.out.r1
              have q3 : w10.cell? ⟨w.heap.size + 1, 3, none⟩ = _ := cell_of_row _ _ 3 _ _ _ HX10.out.r1
              have q4 : w10.cell? ⟨w.heap.size + 1, 4, none⟩ = _ := cell_of_row _ _ 4 _ _ _ HX10.out.r1
              have q5 : w10.cell? ⟨w.heap.size + 1, 5, none⟩ = _ := cell_of_row _ _ 5 _ _ _ HX10.out.r1
              have q6 : w10.cell? ⟨w.heap.size + 1, 6, none⟩ = _ := cell_of_row _ _ 6 _ _ _ HX10.out.r1
              have q7 : w10.cell? ⟨w.heap.size + 1, 7, none⟩ = _ := cell_of_row _ _ 7 _ _ _ HX10.out.r1
              have q8 : w10.cell? ⟨w.heap.size + 1, 8, none⟩ = _ := cell_of_row _ _ 8 _ _ _ HX10.out.r1
              have r0 : w10.cell? ⟨w.heap.size + 1 + 1, 0, none⟩ = _ := cell_of_row _ _ 0 _ _ _ HX10.out.r2
              have r1 : w10.cell? ⟨w.heap.size + 1 + 1, 1, none⟩ = _ := cell_of_row _ _ 1 _ _ _ HX10.out.r2
              have r2 : w10.cell? ⟨w.heap.size + 1 + 1, 2, none⟩ = _ := cell_of_row _ _ 2 _ _ _ HX10.out.r2
              have r3 : w10.cell? ⟨w.heap.size + 1 + 1, 3, none⟩ = _ := cell_of_row _ _ 3 _ _ _ HX10.out.r2
              have r4 : w10.cell? ⟨w.heap.size + 1 + 1, 4, none⟩ = _ := cell_of_row _ _ 4 _ _ _ HX10.out.r2
              have r5 : w10.cell? ⟨w.heap.size + 1 + 1, 5, none⟩ = _ := cell_of_row _ _ 5 _ _ _ HX10.out.r2
              have r6 : w10.cell? ⟨w.heap.size + 1 + 1, 6, none⟩ = _ := cell_of_row _ _ 6 _ _ _ HX10.out.r2
              have r7 : w10.cell? ⟨w.heap.size + 1 + 1, 7, none⟩ = _ := cell_of_row _ _ 7 _ _ _ HX10.out.r2
              have r8 : w10.cell? ⟨w.heap.size + 1 + 1, 8, none⟩ = _ := cell_of_row _ _ 8 _ _ _ HX10.out.r2
              go_wp2_with fail
              go_ret
              exact ⟨by first | rfl | simp, HX10.out.below⟩
            | false =>
              go_wp2_with fail
              refine (HP.out (by first | trivial | rfl) (by first | trivial | rfl) _ HX7.out.below).mono ?_
              rintro e w8 ⟨rfl, hq⟩
              have HX8 := Hid.mk (HX7.out.keep hq)
              clear hq
              clear p0 p1 p2 p3 p4 p5 p6 p7 p8 q0 q1 q2 q3 q4 q5 q6 q7 q8 r0 r1 r2 r3 r4 r5 r6 r7 r8
              have p0 : w8.cell? ⟨w.heap.size, 0, none⟩ = _ := cell_of_row _ _ 0 _ _ _ HX8.out.r0
              have p1 : w8.cell? ⟨w.heap.size, 1, none⟩ = _ := cell_of_row _ _ 1 _ _ _ HX8.out.r0
              have p2 : w8.cell? ⟨w.heap.size, 2, none⟩ = _ := cell_of_row _ _ 2 _ _ _ HX8.out.r0
              have p3 : w8.cell? ⟨w.heap.size, 3, none⟩ = _ := cell_of_row _ _ 3 _ _ _ HX8.out.r0
              have p4 : w8.cell? ⟨w.heap.size, 4, none⟩ = _ := cell_of_row _ _ 4 _ _ _ HX8.out.r0
              have p5 : w8.cell? ⟨w.heap.size, 5, none⟩ = _ := cell_of_row _ _ 5 _ _ _ HX8.out.r0
              have p6 : w8.cell? ⟨w.heap.size, 6, none⟩ = _ := cell_of_row _ _ 6 _ _ _ HX8.out.r0
              have p7 : w8.cell? ⟨w.heap.size, 7, none⟩ = _ := cell_of_row _ _ 7 _ _ _ HX8.out.r0
              have p8 : w8.cell? ⟨w.heap.size, 8, none⟩ = _ := cell_of_row _ _ 8 _ _ _ HX8.out.r0
              have q0 : w8.cell? ⟨w.heap.size + 1, 0, none⟩ = _ := cell_of_row _ _ 0 _ _ _ HX8.out.r1
              have q1 : w8.cell? ⟨w.heap.size + 1, 1, none⟩ = _ := cell_of_row _ _ 1 _ _ _ HX8.out.r1
              have q2 : w8.cell? ⟨w.heap.size + 1, 2, none⟩ = _ := cell_of_row _ _ 2 _ _ _ HX8.out.r1
              have q3 : w8.cell? ⟨w.heap.size + 1, 3, none⟩ = _ := cell_of_row _ _ 3 _ _ _ HX8.out.r1
              have q4 : w8.cell? ⟨w.heap.size + 1, 4, none⟩ = _ := cell_of_row _ _ 4 _ _ _ HX8.out.r1
              have q5 : w8.cell? ⟨w.heap.size + 1, 5, none⟩ = _ := cell_of_row _ _ 5 _ _ _ HX8.out.r1
              have q6 : w8.cell? ⟨w.heap.size + 1, 6, none⟩ = _ := cell_of_row _ _ 6 _ _ _ HX8.out.r1
              have q7 : w8.cell? ⟨w.heap.size + 1, 7, none⟩ = _ := cell_of_row _ _ 7 _ _ _ HX8.out.r1
              have q8 : w8.cell? ⟨w.heap.size + 1, 8, none⟩ = _ := cell_of_row _ _ 8 _ _ _ HX8.out.r1
              have r0 : w8.cell? ⟨w.heap.size + 1 + 1, 0, none⟩ = _ := cell_of_row _ _ 0 _ _ _ HX8.out.r2
              have r1 : w8.cell? ⟨w.heap.size + 1 + 1, 1, none⟩ = _ := cell_of_row _ _ 1 _ _ _ HX8.out.r2
              have r2 : w8.cell? ⟨w.heap.size + 1 + 1, 2, none⟩ = _ := cell_of_row _ _ 2 _ _ _ HX8.out.r2
              have r3 : w8.cell? ⟨w.heap.size + 1 + 1, 3, none⟩ = _ := cell_of_row _ _ 3 _ _ _ HX8.out.r2
              have r4 : w8.cell? ⟨w.heap.size + 1 + 1, 4, none⟩ = _ := cell_of_row _ _ 4 _ _ _ HX8.out.r2
              have r5 : w8.cell? ⟨w.heap.size + 1 + 1, 5, none⟩ = _ := cell_of_row _ _ 5 _ _ _ HX8.out.r2
              have r6 : w8.cell? ⟨w.heap.size + 1 + 1, 6, none⟩ = _ := cell_of_row _ _ 6 _ _ _ HX8.out.r2
              have r7 : w8.cell? ⟨w.heap.size + 1 + 1, 7, none⟩ = _ := cell_of_row _ _ 7 _ _ _ HX8.out.r2
              have r8 : w8.cell? ⟨w.heap.size + 1 + 1, 8, none⟩ = _ := cell_of_row _ _ 8 _ _ _ HX8.out.r2
              go_wp2_with fail
              refine (HQ.out (by first | trivial | rfl) (by first | trivial | rfl) _ HX8.out.below).mono ?_
              rintro e w9 ⟨rfl, hq⟩
              have HX9 := Hid.mk (HX8.out.keep hq)
              clear hq
              clear p0 p1 p2 p3 p4 p5 p6 p7 p8 q0 q1 q2 q3 q4 q5 q6 q7 q8 r0 r1 r2 r3 r4 r5 r6 r7 r8
              have p0 : w9.cell? ⟨w.heap.size, 0, none⟩ = _ := cell_of_row _ _ 0 _ _ _ HX9.out.r0
              have p1 : w9.cell? ⟨w.heap.size, 1, none⟩ = _ := cell_of_row _ _ 1 _ _ _ HX9.out.r0
              have p2 : w9.cell? ⟨w.heap.size, 2, none⟩ = _ := cell_of_row _ _ 2 _ _ _ HX9.out.r0
              have p3 : w9.cell? ⟨w.heap.size, 3, none⟩ = _ := cell_of_row _ _ 3 _ _ _ HX9.out.r0
              have p4 : w9.cell? ⟨w.heap.size, 4, none⟩ = _ := cell_of_row _ _ 4 _ _ _ HX9.out.r0
              have p5 : w9.cell? ⟨w.heap.size, 5, none⟩ = _ := cell_of_row _ _ 5 _ _ _ HX9.out.r0
              have p6 : w9.cell? ⟨w.heap.size, 6, none⟩ = _ := cell_of_row _ _ 6 _ _ _ HX9.out.r0
              have p7 : w9.cell? ⟨w.heap.size, 7, none⟩ = _ := cell_of_row _ _ 7 _ _ _ HX9.out.r0
              have p8 : w9.cell? ⟨w.heap.size, 8, none⟩ = _ := cell_of_row _ _ 8 _ _ _ HX9.out.r0
              have q0 : w9.cell? ⟨w.heap.size + 1, 0, none⟩ = _ := cell_of_row _ _ 0 _ _ _ HX9.out.r1
              have q1 : w9.cell? ⟨w.heap.size + 1, 1, none⟩ = _ := cell_of_row _ _ 1 _ _ _ HX9.out.r1
              have q2 : w9.cell? ⟨w.heap.size + 1, 2, none⟩ = _ := cell_of_row _ _ 2 _ _ _ HX9.out.r1
              have q3 : w9.cell? ⟨w.heap.size + 1, 3, none⟩ = _ := cell_of_row _ _ 3 _ _ _ HX9.out.r1
              have q4 : w9.cell? ⟨w.heap.size + 1, 4, none⟩ = _ := cell_of_row _ _ 4 _ _ _ HX9.out.r1
              have q5 : w9.cell? ⟨w.heap.size + 1, 5, none⟩ = _ := cell_of_row _ _ 5 _ _ _ HX9.out.r1
              have q6 : w9.cell? ⟨w.heap.size + 1, 6, none⟩ = _ := cell_of_row _ _ 6 _ _ _ HX9.out.r1
              have q7 : w9.cell? ⟨w.heap.size + 1, 7, none⟩ = _ := cell_of_row _ _ 7 _ _ _ HX9.out.r1
              have q8 : w9.cell? ⟨w.heap.size + 1, 8, none⟩ = _ := cell_of_row _ _ 8 _ _ _ HX9.out.r1
              have r0 : w9.cell? ⟨w.heap.size + 1 + 1, 0, none⟩ = _ := cell_of_row _ _ 0 _ _ _ HX9.out.r2
              have r1 : w9.cell? ⟨w.heap.size + 1 + 1, 1, none⟩ = _ := cell_of_row _ _ 1 _ _ _ HX9.out.r2
              have r2 : w9.cell? ⟨w.heap.size + 1 + 1, 2, none⟩ = _ := cell_of_row _ _ 2 _ _ _ HX9.out.r2
              have r3 : w9.cell? ⟨w.heap.size + 1 + 1, 3, none⟩ = _ := cell_of_row _ _ 3 _ _ _ HX9.out.r2
              have r4 : w9.cell? ⟨w.heap.size + 1 + 1, 4, none⟩ = _ := cell_of_row _ _ 4 _ _ _ HX9.out.r2
              have r5 : w9.cell? ⟨w.heap.size + 1 + 1, 5, none⟩ = _ := cell_of_row _ _ 5 _ _ _ HX9.out.r2
              have r6 : w9.cell? ⟨w.heap.size + 1 + 1, 6, none⟩ = _ := cell_of_row _ _ 6 _ _ _ HX9.out.r2
              have r7 : w9.cell? ⟨w.heap.size + 1 + 1, 7, none⟩ = _ := cell_of_row _ _ 7 _ _ _ HX9.out.r2
              have r8 : w9.cell? ⟨w.heap.size + 1 + 1, 8, none⟩ = _ := cell_of_row _ _ 8 _ _ _ HX9.out.r2
              go_wp2_with fail
              go_ret
              exact ⟨by first | rfl | simp, HX9.out.below⟩
        | false =>
          cases x with
          | true =>
            go_wp2_with fail
            refine (HP.out (by first | trivial | rfl) (by first | trivial | rfl) _ HX7.out.below).mono ?_
            rintro e w8 ⟨rfl, hq⟩
            have HX8 := Hid.mk (HX7.out.keep hq)
            clear hq
            clear p0 p1 p2 p3 p4 p5 p6 p7 p8 q0 q1 q2 q3 q4 q5 q6 q7 q8 r0 r1 r2 r3 r4 r5 r6 r7 r8
            have p0 : w8.cell? ⟨w.heap.size, 0, none⟩ = _ := cell_of_row _ _ 0 _ _ _ HX8.out.r0
            have p1 : w8.cell? ⟨w.heap.size, 1, none⟩ = _ := cell_of_row _ _ 1 _ _ _ HX8.out.r0
            have p2 : w8.cell? ⟨w.heap.size, 2, none⟩ = _ := cell_of_row _ _ 2 _ _ _ HX8.out.r0
            have p3 : w8.cell? ⟨w.heap.size, 3, none⟩ = _ := cell_of_row _ _ 3 _ _ _ HX8.out.r0
            have p4 : w8.cell? ⟨w.heap.size, 4, none⟩ = _ := cell_of_row _ _ 4 _ _ _ HX8.out.r0
            have p5 : w8.cell? ⟨w.heap.size, 5, none⟩ = _ := cell_of_row _ _ 5 _ _ _ HX8.out.r0
            have p6 : w8.cell? ⟨w.heap.size, 6, none⟩ = _ := cell_of_row _ _ 6 _ _ _ HX8.out.r0
            have p7 : w8.cell? ⟨w.heap.size, 7, none⟩ = _ := cell_of_row _ _ 7 _ _ _ HX8.out.r0
            have p8 : w8.cell? ⟨w.heap.size, 8, none⟩ = _ := cell_of_row _ _ 8 _ _ _ HX8.out.r0
            have q0 : w8.cell? ⟨w.heap.size + 1, 0, none⟩ = _ := cell_of_row _ _ 0 _ _ _ HX8.out.r1
            have q1 : w8.cell? ⟨w.heap.size + 1, 1, none⟩ = _ := cell_of_row _ _ 1 _ _ _ HX8.out.r1
            have q2 : w8.cell? ⟨w.heap.size + 1, 2, none⟩ = _ := cell_of_row _ _ 2 _ _ _ HX8.out.r1
            have q3 : w8.cell? ⟨w.heap.size + 1, 3, none⟩ = _ := cell_of_row _ _ 3 _ _ _ HX8.out.r1
            have q4 : w8.cell? ⟨w.heap.size + 1, 4, none⟩ = _ := cell_of_row _ _ 4 _ _ _ HX8.out.r1
            have q5 : w8.cell? ⟨w.heap.size + 1, 5, none⟩ = _ := cell_of_row _ _ 5 _ _ _ HX8.out.r1
            have q6 : w8.cell? ⟨w.heap.size + 1, 6, none⟩ = _ := cell_of_row _ _ 6 _ _ _ HX8.out.r1
            have q7 : w8.cell? ⟨w.heap.size + 1, 7, none⟩ = _ := cell_of_row _ _ 7 _ _ _ HX8.out.r1
            have q8 : w8.cell? ⟨w.heap.size + 1, 8, none⟩ = _ := cell_of_row _ _ 8 _ _ _ HX8.out.r1
            have r0 : w8.cell? ⟨w.heap.size + 1 + 1, 0, none⟩ = _ := cell_of_row _ _ 0 _ _ _ HX8.out.r2
            have r1 : w8.cell? ⟨w.heap.size + 1 + 1, 1, none⟩ = _ := cell_of_row _ _ 1 _ _ _ HX8.out.r2
            have r2 : w8.cell? ⟨w.heap.size + 1 + 1, 2, none⟩ = _ := cell_of_row _ _ 2 _ _ _ HX8.out.r2
            have r3 : w8.cell? ⟨w.heap.size + 1 + 1, 3, none⟩ = _ := cell_of_row _ _ 3 _ _ _ HX8.out.r2
            have r4 : w8.cell? ⟨w.heap.size + 1 + 1, 4, none⟩ = _ := cell_of_row _ _ 4 _ _ _ HX8.out.r2
            have r5 : w8.cell? ⟨w.heap.size + 1 + 1, 5, none⟩ = _ := cell_of_row _ _ 5 _ _ _ HX8.out.r2
            have r6 : w8.cell? ⟨w.heap.size + 1 + 1, 6, none⟩ = _ := cell_of_row _ _ 6 _ _ _ HX8.out.r2
            have r7 : w8.cell? ⟨w.heap.size + 1 + 1, 7, none⟩ = _ := cell_of_row _ _ 7 _ _ _ HX8.out.r2
            have r8 : w8.cell? ⟨w.heap.size + 1 + 1, 8, none⟩ = _ := cell_of_row _ _ 8 _ _ _ HX8.out.r2
            go_wp2_with fail
            refine (HQ.out (by first | trivial | rfl) (by first | trivial | rfl) _ HX8.out.below).mono ?_
            rintro e w9 ⟨rfl, hq⟩
            have HX9 := Hid.mk (HX8.out.keep hq)
            clear hq
            clear p0 p1 p2 p3 p4 p5 p6 p7 p8 q0 q1 q2 q3 q4 q5 q6 q7 q8 r0 r1 r2 r3 r4 r5 r6 r7 r8
            have p0 : w9.cell? ⟨w.heap.size, 0, none⟩ = _ := cell_of_row _ _ 0 _ _ _ HX9.out.r0
            have p1 : w9.cell? ⟨w.heap.size, 1, none⟩ = _ := cell_of_row _ _ 1 _ _ _ HX9.out.r0
            have p2 : w9.cell? ⟨w.heap.size, 2, none⟩ = _ := cell_of_row _ _ 2 _ _ _ HX9.out.r0
            have p3 : w9.cell? ⟨w.heap.size, 3, none⟩ = _ := cell_of_row _ _ 3 _ _ _ HX9.out.r0
            have p4 : w9.cell? ⟨w.heap.size, 4, none⟩ = _ := cell_of_row _ _ 4 _ _ _ HX9.out.r0
            have p5 : w9.cell? ⟨w.heap.size, 5, none⟩ = _ := cell_of_row _ _ 5 _ _ _ HX9.out.r0
            have p6 : w9.cell? ⟨w.heap.size, 6, none⟩ = _ := cell_of_row _ _ 6 _ _ _ HX9.out.r0
            have p7 : w9.cell? ⟨w.heap.size, 7, none⟩ = _ := cell_of_row _ _ 7 _ _ _ HX9.out.r0
            have p8 : w9.cell? ⟨w.heap.size, 8, none⟩ = _ := cell_of_row _ _ 8 _ _ _ HX9.out.r0
            have q0 : w9.cell? ⟨w.heap.size + 1, 0, none⟩ = _ := cell_of_row _ _ 0 _ _ _ HX9.out.r1
            have q1 : w9.cell? ⟨w.heap.size + 1, 1, none⟩ = _ := cell_of_row _ _ 1 _ _ _ HX9.out.r1
            have q2 : w9.cell? ⟨w.heap.size + 1, 2, none⟩ = _ := cell_of_row _ _ 2 _ _ _ HX9.out.r1
            have q3 : w9.cell? ⟨w.heap.size + 1, 3, none⟩ = _ := cell_of_row _ _ 3 _ _ _ HX9.out.r1
            have q4 : w9.cell? ⟨w.heap.size + 1, 4, none⟩ = _ := cell_of_row _ _ 4 _ _ _ HX9.out.r1
            have q5 : w9.cell? ⟨w.heap.size + 1, 5, none⟩ = _ := cell_of_row _ _ 5 _ _ _ HX9.out.r1
            have q6 : w9.cell? ⟨w.heap.size + 1, 6, none⟩ = _ := cell_of_row _ _ 6 _ _ _ HX9.out.r1
            have q7 : w9.cell? ⟨w.heap.size + 1, 7, none⟩ = _ := cell_of_row _ _ 7 _ _ _ HX9.out.r1
            have q8 : w9.cell? ⟨w.heap.size + 1, 8, none⟩ = _ := cell_of_row _ _ 8 _ _ _ HX9.out.r1
            have r0 : w9.cell? ⟨w.heap.size + 1 + 1, 0, none⟩ = _ := cell_of_row _ _ 0 _ _ _ HX9.out.r2
            have r1 : w9.cell? ⟨w.heap.size + 1 + 1, 1, none⟩ = _ := cell_of_row _ _ 1 _ _ _ HX9.out.r2
            have r2 : w9.cell? ⟨w.heap.size + 1 + 1, 2, none⟩ = _ := cell_of_row _ _ 2 _ _ _ HX9.out.r2
            have r3 : w9.cell? ⟨w.heap.size + 1 + 1, 3, none⟩ = _ := cell_of_row _ _ 3 _ _ _ HX9.out.r2
            have r4 : w9.cell? ⟨w.heap.size + 1 + 1, 4, none⟩ = _ := cell_of_row _ _ 4 _ _ _ HX9.out.r2
            have r5 : w9.cell? ⟨w.heap.size + 1 + 1, 5, none⟩ = _ := cell_of_row _ _ 5 _ _ _ HX9.out.r2
            have r6 : w9.cell? ⟨w.heap.size + 1 + 1, 6, none⟩ = _ := cell_of_row _ _ 6 _ _ _ HX9.out.r2
            have r7 : w9.cell? ⟨w.heap.size + 1 + 1, 7, none⟩ = _ := cell_of_row _ _ 7 _ _ _ HX9.out.r2
            have r8 : w9.cell? ⟨w.heap.size + 1 + 1, 8, none⟩ = _ := cell_of_row _ _ 8 _ _ _ HX9.out.r2
            go_wp2_with fail
            go_ret
            exact ⟨by first | rfl | simp, HX9.out.below⟩
          | false =>
            go_wp2_with fail
            refine (HP.out (by first | trivial | rfl) (by first | trivial | rfl) _ HX7.out.below).mono ?_
            rintro e w8 ⟨rfl, hq⟩
            have HX8 := Hid.mk (HX7.out.keep hq)
            clear hq
            clear p0 p1 p2 p3 p4 p5 p6 p7 p8 q0 q1 q2 q3 q4 q5 q6 q7 q8 r0 r1 r2 r3 r4 r5 r6 r7 r8
            have p0 : w8.cell? ⟨w.heap.size, 0, none⟩ = _ := cell_of_row _ _ 0 _ _ _ HX8.out.r0
            have p1 : w8.cell? ⟨w.heap.size, 1, none⟩ = _ := cell_of_row _ _ 1 _ _ _ HX8.out.r0
            have p2 : w8.cell? ⟨w.heap.size, 2, none⟩ = _ := cell_of_row _ _ 2 _ _ _ HX8.out.r0
            have p3 : w8.cell? ⟨w.heap.size, 3, none⟩ = _ := cell_of_row _ _ 3 _ _ _ HX8.out.r0
            have p4 : w8.cell? ⟨w.heap.size, 4, none⟩ = _ := cell_of_row _ _ 4 _ _ _ HX8.out.r0
            have p5 : w8.cell? ⟨w.heap.size, 5, none⟩ = _ := cell_of_row _ _ 5 _ _ _ HX8.out.r0
            have p6 : w8.cell? ⟨w.heap.size, 6, none⟩ = _ := cell_of_row _ _ 6 _ _ _ HX8.out.r0
            have p7 : w8.cell? ⟨w.heap.size, 7, none⟩ = _ := cell_of_row _ _ 7 _ _ _ HX8.out.r0
            have p8 : w8.cell? ⟨w.heap.size, 8, none⟩ = _ := cell_of_row _ _ 8 _ _ _ HX8.out.r0
            have q0 : w8.cell? ⟨w.heap.size + 1, 0, none⟩ = _ := cell_of_row _ _ 0 _ _ _ HX8.out.r1
            have q1 : w8.cell? ⟨w.heap.size + 1, 1, none⟩ = _ := cell_of_row _ _ 1 _ _ _ HX8.out.r1
            have q2 : w8.cell? ⟨w.heap.size + 1, 2, none⟩ = _ := cell_of_row _ _ 2 _ _ _ HX8.out.r1
            have q3 : w8.cell? ⟨w.heap.size + 1, 3, none⟩ = _ := cell_of_row _ _ 3 _ _ _ HX8.out.r1
            have q4 : w8.cell? ⟨w.heap.size + 1, 4, none⟩ = _ := cell_of_row _ _ 4 _ _ _ HX8.out.r1
            have q5 : w8.cell? ⟨w.heap.size + 1, 5, none⟩ = _ := cell_of_row _ _ 5 _ _ _ HX8.out.r1
            have q6 : w8.cell? ⟨w.heap.size + 1, 6, none⟩ = _ := cell_of_row _ _ 6 _ _ _ HX8.out.r1
            have q7 : w8.cell? ⟨w.heap.size + 1, 7, none⟩ = _ := cell_of_row _ _ 7 _ _ _ HX8.out.r1
            have q8 : w8.cell? ⟨w.heap.size + 1, 8, none⟩ = _ := cell_of_row _ _ 8 _ _ _ HX8.out.r1
            have r0 : w8.cell? ⟨w.heap.size + 1 + 1, 0, none⟩ = _ := cell_of_row _ _ 0 _ _ _ HX8.out.r2
            have r1 : w8.cell? ⟨w.heap.size + 1 + 1, 1, none⟩ = _ := cell_of_row _ _ 1 _ _ _ HX8.out.r2
            have r2 : w8.cell? ⟨w.heap.size + 1 + 1, 2, none⟩ = _ := cell_of_row _ _ 2 _ _ _ HX8.out.r2
            have r3 : w8.cell? ⟨w.heap.size + 1 + 1, 3, none⟩ = _ := cell_of_row _ _ 3 _ _ _ HX8.out.r2
            have r4 : w8.cell? ⟨w.heap.size + 1 + 1, 4, none⟩ = _ := cell_of_row _ _ 4 _ _ _ HX8.out.r2
            have r5 : w8.cell? ⟨w.heap.size + 1 + 1, 5, none⟩ = _ := cell_of_row _ _ 5 _ _ _ HX8.out.r2
            have r6 : w8.cell? ⟨w.heap.size + 1 + 1, 6, none⟩ = _ := cell_of_row _ _ 6 _ _ _ HX8.out.r2
            have r7 : w8.cell? ⟨w.heap.size + 1 + 1, 7, none⟩ = _ := cell_of_row _ _ 7 _ _ _ HX8.out.r2
            have r8 : w8.cell? ⟨w.heap.size + 1 + 1, 8, none⟩ = _ := cell_of_row _ _ 8 _ _ _ HX8.out.r2
            go_wp2_with fail
            refine (HQ.out (by first | trivial | rfl) (by first | trivial | rfl) _ HX8.out.below).mono ?_
            rintro e w9 ⟨rfl, hq⟩
            have HX9 := Hid.mk (HX8.out.keep hq)
            clear hq
            clear p0 p1 p2 p3 p4 p5 p6 p7 p8 q0 q1 q2 q3 q4 q5 q6 q7 q8 r0 r1 r2 r3 r4 r5 r6 r7 r8
            have p0 : w9.cell? ⟨w.heap.size, 0, none⟩ = _ := cell_of_row _ _ 0 _ _ _ HX9.out.r0
            have p1 : w9.cell? ⟨w.heap.size, 1, none⟩ = _ := cell_of_row _ _ 1 _ _ _ HX9.out.r0
            have p2 : w9.cell? ⟨w.heap.size, 2, none⟩ = _ := cell_of_row _ _ 2 _ _ _ HX9.out.r0
            have p3 : w9.cell? ⟨w.heap.size, 3, none⟩ = _ := cell_of_row _ _ 3 _ _ _ HX9.out.r0
            have p4 : w9.cell? ⟨w.heap.size, 4, none⟩ = _ := cell_of_row _ _ 4 _ _ _ HX9.out.r0
            have p5 : w9.cell? ⟨w.heap.size, 5, none⟩ = _ := cell_of_row _ _ 5 _ _ _ HX9.out.r0
            have p6 : w9.cell? ⟨w.heap.size, 6, none⟩ = _ := cell_of_row _ _ 6 _ _ _ HX9.out.r0
            have p7 : w9.cell? ⟨w.heap.size, 7, none⟩ = _ := cell_of_row _ _ 7 _ _ _ HX9.out.r0
            have p8 : w9.cell? ⟨w.heap.size, 8, none⟩ = _ := cell_of_row _ _ 8 _ _ _ HX9.out.r0
            have q0 : w9.cell? ⟨w.heap.size + 1, 0, none⟩ = _ := cell_of_row _ _ 0 _ _ _ HX9.out.r1
            have q1 : w9.cell? ⟨w.heap.size + 1, 1, none⟩ = _ := cell_of_row _ _ 1 _ _ _ HX9.out.r1
            have q2 : w9.cell? ⟨w.heap.size + 1, 2, none⟩ = _ := cell_of_row _ _ 2 _ _ _ HX9.out.r1
            have q3 : w9.cell? ⟨w.heap.size + 1, 3, none⟩ = _ := cell_of_row _ _ 3 _ _ _ HX9.out.r1
            have q4 : w9.cell? ⟨w.heap.size + 1, 4, none⟩ = _ := cell_of_row _ _ 4 _ _ _ HX9.out.r1
            have q5 : w9.cell? ⟨w.heap.size + 1, 5, none⟩ = _ := cell_of_row _ _ 5 _ _ _ HX9.out.r1
            have q6 : w9.cell? ⟨w.heap.size + 1, 6, none⟩ = _ := cell_of_row _ _ 6 _ _ _ HX9.out.r1
            have q7 : w9.cell? ⟨w.heap.size + 1, 7, none⟩ = _ := cell_of_row _ _ 7 _ _ _ HX9.out.r1
            have q8 : w9.cell? ⟨w.heap.size + 1, 8, none⟩ = _ := cell_of_row _ _ 8 _ _ _ HX9.out.r1
            have r0 : w9.cell? ⟨w.heap.size + 1 + 1, 0, none⟩ = _ := cell_of_row _ _ 0 _ _ _ HX9.out.r2
            have r1 : w9.cell? ⟨w.heap.size + 1 + 1, 1, none⟩ = _ := cell_of_row _ _ 1 _ _ _ HX9.out.r2
            have r2 : w9.cell? ⟨w.heap.size + 1 + 1, 2, none⟩ = _ := cell_of_row _ _ 2 _ _ _ HX9.out.r2
            have r3 : w9.cell? ⟨w.heap.size + 1 + 1, 3, none⟩ = _ := cell_of_row _ _ 3 _ _ _ HX9.out.r2
            have r4 : w9.cell? ⟨w.heap.size + 1 + 1, 4, none⟩ = _ := cell_of_row _ _ 4 _ _ _ HX9.out.r2
            have r5 : w9.cell? ⟨w.heap.size + 1 + 1, 5, none⟩ = _ := cell_of_row _ _ 5 _ _ _ HX9.out.r2
            have r6 : w9.cell? ⟨w.heap.size + 1 + 1, 6, none⟩ = _ := cell_of_row _ _ 6 _ _ _ HX9.out.r2
            have r7 : w9.cell? ⟨w.heap.size + 1 + 1, 7, none⟩ = _ := cell_of_row _ _ 7 _ _ _ HX9.out.r2
            have r8 : w9.cell? ⟨w.heap.size + 1 + 1, 8, none⟩ = _ := cell_of_row _ _ 8 _ _ _ HX9.out.r2
            go_wp2_with fail
            go_ret
            exact ⟨by first | rfl | simp, HX9.out.below⟩
      | false =>
        go_wp2_with fail
        go_ret
        exact ⟨by first | rfl | simp, HX4.out.below⟩
    | false =>
      go_wp2_with fail
      go_ret
      exact ⟨by first | rfl | simp, HX3.out.below⟩
  | false =>
    go_wp2_with fail
    go_ret
    exact ⟨by first | rfl | simp, HX2.out.below⟩


set_option maxRecDepth 100000 in
/-- THE 5: Below goes on from type to type, and Apart goes with it -/
theorem w_BelowRow (h : Nat) (A B C : TT) (va vb vc : Value) (w : World) (hA : InT w h A va) (hB : InT w h B vb) (hC : InT w h C vc) (tA : tpN h A ≤ 1048576) (tB : tpN h B ≤ 1048576) (tC : tpN h C ≤ 1048576) :
    Calls Try.prog 5 #[va, vb, vc] w fun e w' => e = .returned (.bool true) ∧ Below w.heap.size w w' := by
  obtain ⟨sa, sb, sc, sd, ⟨seo, sen, sec⟩, sf, ⟨sgo, sgn, sgc⟩, ⟨sio, sinn, sic⟩, ⟨sjo, sjn, sjc⟩, rfl⟩ := inT_shape hA
  obtain ⟨ta, tb, tc, td, ⟨teo, ten, tec⟩, tf, ⟨tgo, tgn, tgc⟩, ⟨tio, tinn, tic⟩, ⟨tjo, tjn, tjc⟩, rfl⟩ := inT_shape hB
  obtain ⟨ka, kb, kc, kd, ⟨keo, ken, kec⟩, kf, ⟨kgo, kgn, kgc⟩, ⟨kio, kinn, kic⟩, ⟨kjo, kjn, kjc⟩, rfl⟩ := inT_shape hC
  have fm : ∀ {x : Bool} {T : TT}, (x && fmN h T) = true → fmN h T = true := fun e => by rw [Bool.and_eq_true] at e; exact e.2
  refine row_step _ _ _ _ _ _ _ _ _ _ _ _ _ _ _ _ _ _ _ _ _ _ _ _ _ _ _ _ _ _ _ _ _ _ _ _ _ _ _ _ _ _ _ _ _ _ _ _ _ _ _ w _ _ _ A.never (bwN h A B) (bwN h B C) (bwN h A C) (!mtN h B C) (!mtN h A C)
    (Hid.mk fun u => w_lives12 u)
    (Hid.mk fun u hu => w_formed12 h A _ u (hA.keep hu) tA)
    (Hid.mk fun u hu => w_formed12 h B _ u (hB.keep hu) tB)
    (Hid.mk fun u hu => w_formed12 h C _ u (hC.keep hu) tC)
    (Hid.mk fun e1 u hu => by have hx := w_Below h A A _ _ u (hA.keep hu) (hA.keep hu) (fm e1) (fm e1); rw [bw_refl h A (fm e1)] at hx; exact hx)
    (Hid.mk fun e1 u hu => by have hx := w_Apart h A A _ _ u (hA.keep hu) (hA.keep hu) (fm e1) (fm e1); rw [mt_self h A (fm e1), Bool.not_not] at hx; exact hx)
    (Hid.mk fun u hu => w_rNever h A _ u (hA.keep hu))
    (Hid.mk fun e1 e2 u hu => w_Below h A B _ _ u (hA.keep hu) (hB.keep hu) (fm e1) (fm e2))
    (Hid.mk fun e1 e2 u hu => w_Below h B C _ _ u (hB.keep hu) (hC.keep hu) (fm e1) (fm e2))
    (Hid.mk fun u hu => w_rSingle h B _ u (hB.keep hu))
    (Hid.mk fun u hu => w_rSingle h C _ u (hC.keep hu))
    (Hid.mk fun e1 e2 u hu => w_Below h A C _ _ u (hA.keep hu) (hC.keep hu) (fm e1) (fm e2))
    (Hid.mk fun e1 e2 u hu => w_Apart h B C _ _ u (hB.keep hu) (hC.keep hu) (fm e1) (fm e2))
    (Hid.mk fun e1 e2 u hu => by have hx := w_Apart h C B _ _ u (hC.keep hu) (hB.keep hu) (fm e2) (fm e1); rw [mt_sym h C B] at hx; exact hx)
    (Hid.mk fun e1 e2 u hu => w_Apart h A C _ _ u (hA.keep hu) (hC.keep hu) (fm e1) (fm e2))
    (Hid.mk fun e1 e2 e3 => ⟨fun k1 k2 => bw_tr h A B C (fm e1) (fm e2) (fm e3) k1 k2, fun k1 k2 => by
      cases e : mtN h A C with
      | false => rfl
      | true =>
        rw [mt_mono h A B C (fm e1) (fm e2) (fm e3) k1 e] at k2
        cases k2⟩)
end Go.Proofs.Ytihhjplbpaafiaa
