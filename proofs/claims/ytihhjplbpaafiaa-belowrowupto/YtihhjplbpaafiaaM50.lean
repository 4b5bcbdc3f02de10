import Derived.Test.YtihhjplbpaafiaaM45
import Derived.Test.YtihhjplbpaafiaaM48
import Derived.Test.YtihhjplbpaafiaaM49
import Derived.Test.YtihhjplbpaafiaaM16
namespace Go.Proofs.Ytihhjplbpaafiaa
open Go.RowKit Go.Shelf Go.Sort
set_option linter.unusedVariables false
set_option linter.unusedSimpArgs false
attribute [local go_sem] Oper.semAt_some

/-- three boxes -/
structure B3x (w u : World) (xs ys zs : Array Value) (t1 t2 t3 : TypeId) : Prop where
  below : Below w.heap.size w u
  r0 : u.heap[w.heap.size]? = some (.cells xs t1 (0, 0))
  r1 : u.heap[w.heap.size + 1]? = some (.cells ys t2 (0, 0))
  r2 : u.heap[w.heap.size + 1 + 1]? = some (.cells zs t3 (0, 0))
theorem B3x.keep {w u u' : World} {xs ys zs : Array Value} {t1 t2 t3 : TypeId} (x : B3x w u xs ys zs t1 t2 t3) (hb : Below u.heap.size u u') : B3x w u' xs ys zs t1 t2 t3 :=
  ⟨x.below.trans (hb.mono x.below.size), (hb.block _ (lt_of_row' x.r0)).trans x.r0, (hb.block _ (lt_of_row' x.r1)).trans x.r1, (hb.block _ (lt_of_row' x.r2)).trans x.r2⟩
theorem b3x_new (w : World) (xs ys zs : Array Value) (t1 t2 t3 : TypeId) : B3x w (((w.alloc (.cells xs t1)).alloc (.cells ys t2)).alloc (.cells zs t3)) xs ys zs t1 t2 t3 := by
  refine ⟨(((Below.refl _ w).alloc (Nat.le_refl _) _).alloc (by simp) _).alloc (by simp; omega) _, ?_, ?_, ?_⟩
  · rw [Below.heap_alloc _ _ _ (by simp; omega), Below.heap_alloc _ _ _ (by simp)]; exact World.alloc_heap_new w _
  · rw [Below.heap_alloc _ _ _ (by simp)]
    have h := World.alloc_heap_new (w.alloc (.cells xs t1)) (.cells ys t2)
    rw [World.size_alloc] at h
    exact h
  · have h := World.alloc_heap_new ((w.alloc (.cells xs t1)).alloc (.cells ys t2)) (.cells zs t3)
    rw [World.size_alloc, World.size_alloc] at h
    exact h
set_option maxRecDepth 100000 in
set_option maxHeartbeats 12800000 in
theorem true_step (sa sb sc sd : Bool) (seo : Option Addr) (sen sec : Nat) (sf : Bool) (sgo : Option Addr) (sgn sgc : Nat) (sio : Option Addr) (sinn sic : Nat) (sjo : Option Addr) (sjn sjc : Nat) (ta tb tc td : Bool) (teo : Option Addr) (ten tec : Nat) (tf : Bool) (tgo : Option Addr) (tgn tgc : Nat) (tio : Option Addr) (tinn tic : Nat) (tjo : Option Addr) (tjn tjc : Nat) (kd : Int) (nm tx : ByteArray) (io : Option Addr) (NI icap : Nat) (ko : Option Addr) (NK kcap : Nat) (w : World) (f1 f2 s v i1 i2 b p : Bool)
    (H0 : Hid (∀ u, Calls Try.prog 6 #[] u fun e w' => e = .returned (.bool true) ∧ Below u.heap.size u w'))
    (H1 : Hid (∀ u, Below w.heap.size w u → Calls Try.prog 7 #[.agg #[.bool sa, .bool sb, .bool sc, .bool sd, .slice seo sen sec, .bool sf, .slice sgo sgn sgc, .slice sio sinn sic, .slice sjo sjn sjc]] u fun e w' => e = .returned (.bool f1) ∧ Below u.heap.size u w'))
    (H2 : Hid (∀ u, Below w.heap.size w u → Calls Try.prog 7 #[.agg #[.bool ta, .bool tb, .bool tc, .bool td, .slice teo ten tec, .bool tf, .slice tgo tgn tgc, .slice tio tinn tic, .slice tjo tjn tjc]] u fun e w' => e = .returned (.bool f2) ∧ Below u.heap.size u w'))
    (H3 : Hid (∀ u b, Below w.heap.size w u → u.heap[b]? = some (.cells #[.int .i64 kd, .string nm, .string tx, .slice io NI icap, .slice ko NK kcap] 33 (0, 0)) → Calls Try.prog 10 #[.slice (some ⟨b, 0, none⟩) 1 1] u fun e w' => e = .returned (.bool s) ∧ Below u.heap.size u w'))
    (H4 : Hid (∀ u, Below w.heap.size w u → Calls Try.prog 11 #[.agg #[.int .i64 kd, .string nm, .string tx, .slice io NI icap, .slice ko NK kcap]] u fun e w' => e = .returned (.bool v) ∧ Below u.heap.size u w'))
    (H5 : Hid (f1 = true → v = true → ∀ u, Below w.heap.size w u → Calls Try.prog 12 #[.agg #[.int .i64 kd, .string nm, .string tx, .slice io NI icap, .slice ko NK kcap], .agg #[.bool sa, .bool sb, .bool sc, .bool sd, .slice seo sen sec, .bool sf, .slice sgo sgn sgc, .slice sio sinn sic, .slice sjo sjn sjc]] u fun e w' => e = .returned (.bool i1) ∧ Below u.heap.size u w'))
    (H6 : Hid (f2 = true → v = true → ∀ u, Below w.heap.size w u → Calls Try.prog 12 #[.agg #[.int .i64 kd, .string nm, .string tx, .slice io NI icap, .slice ko NK kcap], .agg #[.bool ta, .bool tb, .bool tc, .bool td, .slice teo ten tec, .bool tf, .slice tgo tgn tgc, .slice tio tinn tic, .slice tjo tjn tjc]] u fun e w' => e = .returned (.bool i2) ∧ Below u.heap.size u w'))
    (H7 : Hid (f1 = true → f2 = true → ∀ u, Below w.heap.size w u → Calls Try.prog 8 #[.agg #[.bool sa, .bool sb, .bool sc, .bool sd, .slice seo sen sec, .bool sf, .slice sgo sgn sgc, .slice sio sinn sic, .slice sjo sjn sjc], .agg #[.bool ta, .bool tb, .bool tc, .bool td, .slice teo ten tec, .bool tf, .slice tgo tgn tgc, .slice tio tinn tic, .slice tjo tjn tjc]] u fun e w' => e = .returned (.bool b) ∧ Below u.heap.size u w'))
    (H8 : Hid (f1 = true → f2 = true → ∀ u, Below w.heap.size w u → Calls Try.prog 13 #[.agg #[.bool sa, .bool sb, .bool sc, .bool sd, .slice seo sen sec, .bool sf, .slice sgo sgn sgc, .slice sio sinn sic, .slice sjo sjn sjc], .agg #[.bool ta, .bool tb, .bool tc, .bool td, .slice teo ten tec, .bool tf, .slice tgo tgn tgc, .slice tio tinn tic, .slice tjo tjn tjc]] u fun e w' => e = .returned (.bool p) ∧ Below u.heap.size u w'))
    (HE : Hid (f1 = true → f2 = true → v = true → (b = true → i1 = true → i2 = true) ∧ (p = true → i1 = true → i2 = true → False))) :
    Calls Try.prog 4 #[.agg #[.bool sa, .bool sb, .bool sc, .bool sd, .slice seo sen sec, .bool sf, .slice sgo sgn sgc, .slice sio sinn sic, .slice sjo sjn sjc], .agg #[.bool ta, .bool tb, .bool tc, .bool td, .slice teo ten tec, .bool tf, .slice tgo tgn tgc, .slice tio tinn tic, .slice tjo tjn tjc], .agg #[.int .i64 kd, .string nm, .string tx, .slice io NI icap, .slice ko NK kcap]] w fun e w' => e = .returned (.bool true) ∧ Below w.heap.size w w' := by
  have HX0 := Hid.mk (b3x_new w #[.bool sa, .bool sb, .bool sc, .bool sd, .slice seo sen sec, .bool sf, .slice sgo sgn sgc, .slice sio sinn sic, .slice sjo sjn sjc] #[.bool ta, .bool tb, .bool tc, .bool td, .slice teo ten tec, .bool tf, .slice tgo tgn tgc, .slice tio tinn tic, .slice tjo tjn tjc] #[.int .i64 kd, .string nm, .string tx, .slice io NI icap, .slice ko NK kcap] 27 27 33)
  obtain ⟨w0, hw0⟩ : ∃ w0, ((w.alloc (.cells #[.bool sa, .bool sb, .bool sc, .bool sd, .slice seo sen sec, .bool sf, .slice sgo sgn sgc, .slice sio sinn sic, .slice sjo sjn sjc] 27)).alloc (.cells #[.bool ta, .bool tb, .bool tc, .bool td, .slice teo ten tec, .bool tf, .slice tgo tgn tgc, .slice tio tinn tic, .slice tjo tjn tjc] 27)).alloc (.cells #[.int .i64 kd, .string nm, .string tx, .slice io NI icap, .slice ko NK kcap] 33) = w0 := ⟨_, rfl⟩
  rw [hw0] at HX0
  have p0 : w0.cell? ⟨w.heap.size, 0, none⟩ = _ := cell_of_row _ _ 0 _ _ _ HX0.out.r0
  have p1 : w0.cell? ⟨w.heap.size, 1, none⟩ = _ := cell_of_row _ _ 1 _ _ _ HX0.out.r0
  have p2 : w0.cell? ⟨w.heap.size, 2, none⟩ = _ := cell_of_row _ _ 2 _ _ _ HX0.out.r0
  have p3 : w0.cell? ⟨w.heap.size, 3, none⟩ = _ := cell_of_row _ _ 3 _ _ _ HX0.out.r0
  have p4 : w0.cell? ⟨w.heap.size, 4, none⟩ = _ := cell_of_row _ _ 4 _ _ _ HX0.out.r0
  have p5 : w0.cell? ⟨w.heap.size, 5, none⟩ = _ := cell_of_row _ _ 5 _ _ _ HX0.out.r0
  have p6 : w0.cell? ⟨w.heap.size, 6, none⟩ = _ := cell_of_row _ _ 6 _ _ _ HX0.out.r0
  have p7 : w0.cell? ⟨w.heap.size, 7, none⟩ = _ := cell_of_row _ _ 7 _ _ _ HX0.out.r0
  have p8 : w0.cell? ⟨w.heap.size, 8, none⟩ = _ := cell_of_row _ _ 8 _ _ _ HX0.out.r0
  have q0 : w0.cell? ⟨w.heap.size + 1, 0, none⟩ = _ := cell_of_row _ _ 0 _ _ _ HX0.out.r1
  have q1 : w0.cell? ⟨w.heap.size + 1, 1, none⟩ = _ := cell_of_row _ _ 1 _ _ _ HX0.out.r1
  have q2 : w0.cell? ⟨w.heap.size + 1, 2, none⟩ = _ := cell_of_row _ _ 2 _ _ _ HX0.out.r1
  have q3 : w0.cell? ⟨w.heap.size + 1, 3, none⟩ = _ := cell_of_row _ _ 3 _ _ _ HX0.out.r1
  have q4 : w0.cell? ⟨w.heap.size + 1, 4, none⟩ = _ := cell_of_row _ _ 4 _ _ _ HX0.out.r1
  have q5 : w0.cell? ⟨w.heap.size + 1, 5, none⟩ = _ := cell_of_row _ _ 5 _ _ _ HX0.out.r1
  have q6 : w0.cell? ⟨w.heap.size + 1, 6, none⟩ = _ := cell_of_row _ _ 6 _ _ _ HX0.out.r1
  have q7 : w0.cell? ⟨w.heap.size + 1, 7, none⟩ = _ := cell_of_row _ _ 7 _ _ _ HX0.out.r1
  have q8 : w0.cell? ⟨w.heap.size + 1, 8, none⟩ = _ := cell_of_row _ _ 8 _ _ _ HX0.out.r1
  have r0 : w0.cell? ⟨w.heap.size + 1 + 1, 0, none⟩ = _ := cell_of_row _ _ 0 _ _ _ HX0.out.r2
  have r1 : w0.cell? ⟨w.heap.size + 1 + 1, 1, none⟩ = _ := cell_of_row _ _ 1 _ _ _ HX0.out.r2
  have r2 : w0.cell? ⟨w.heap.size + 1 + 1, 2, none⟩ = _ := cell_of_row _ _ 2 _ _ _ HX0.out.r2
  have r3 : w0.cell? ⟨w.heap.size + 1 + 1, 3, none⟩ = _ := cell_of_row _ _ 3 _ _ _ HX0.out.r2
  have r4 : w0.cell? ⟨w.heap.size + 1 + 1, 4, none⟩ = _ := cell_of_row _ _ 4 _ _ _ HX0.out.r2
  go_enter Try.func4, Try.ntmps4
  go_wp2_with fail
  refine (H0.out _).mono ?_
  rintro e w1 ⟨rfl, hq⟩
  have HX1 := Hid.mk (HX0.out.keep hq)
  clear hq hw0
  clear p0 p1 p2 p3 p4 p5 p6 p7 p8 q0 q1 q2 q3 q4 q5 q6 q7 q8 r0 r1 r2 r3 r4
  have p0 : w1.cell? ⟨w.heap.size, 0, none⟩ = _ := cell_of_row _ _ 0 _ _ _ HX1.out.r0
  have p1 : w1.cell? ⟨w.heap.size, 1, none⟩ = _ := cell_of_row _ _ 1 _ _ _ HX1.out.r0
  have p2 : w1.cell? ⟨w.heap.size, 2, none⟩ = _ := cell_of_row _ _ 2 _ _ _ HX1.out.r0
  have p3 : w1.cell? ⟨w.heap.size, 3, none⟩ = _ := cell_of_row _ _ 3 _ _ _ HX1.out.r0
  have p4 : w1.cell? ⟨w.heap.size, 4, none⟩ = _ := cell_of_row _ _ 4 _ _ _ HX1.out.r0
  have p5 : w1.cell? ⟨w.heap.size, 5, none⟩ = _ := cell_of_row _ _ 5 _ _ _ HX1.out.r0
  have p6 : w1.cell? ⟨w.heap.size, 6, none⟩ = _ := cell_of_row _ _ 6 _ _ _ HX1.out.r0
  have p7 : w1.cell? ⟨w.heap.size, 7, none⟩ = _ := cell_of_row _ _ 7 _ _ _ HX1.out.r0
  have p8 : w1.cell? ⟨w.heap.size, 8, none⟩ = _ := cell_of_row _ _ 8 _ _ _ HX1.out.r0
  have q0 : w1.cell? ⟨w.heap.size + 1, 0, none⟩ = _ := cell_of_row _ _ 0 _ _ _ HX1.out.r1
  have q1 : w1.cell? ⟨w.heap.size + 1, 1, none⟩ = _ := cell_of_row _ _ 1 _ _ _ HX1.out.r1
  have q2 : w1.cell? ⟨w.heap.size + 1, 2, none⟩ = _ := cell_of_row _ _ 2 _ _ _ HX1.out.r1
  have q3 : w1.cell? ⟨w.heap.size + 1, 3, none⟩ = _ := cell_of_row _ _ 3 _ _ _ HX1.out.r1
  have q4 : w1.cell? ⟨w.heap.size + 1, 4, none⟩ = _ := cell_of_row _ _ 4 _ _ _ HX1.out.r1
  have q5 : w1.cell? ⟨w.heap.size + 1, 5, none⟩ = _ := cell_of_row _ _ 5 _ _ _ HX1.out.r1
  have q6 : w1.cell? ⟨w.heap.size + 1, 6, none⟩ = _ := cell_of_row _ _ 6 _ _ _ HX1.out.r1
  have q7 : w1.cell? ⟨w.heap.size + 1, 7, none⟩ = _ := cell_of_row _ _ 7 _ _ _ HX1.out.r1
  have q8 : w1.cell? ⟨w.heap.size + 1, 8, none⟩ = _ := cell_of_row _ _ 8 _ _ _ HX1.out.r1
  have r0 : w1.cell? ⟨w.heap.size + 1 + 1, 0, none⟩ = _ := cell_of_row _ _ 0 _ _ _ HX1.out.r2
  have r1 : w1.cell? ⟨w.heap.size + 1 + 1, 1, none⟩ = _ := cell_of_row _ _ 1 _ _ _ HX1.out.r2
  have r2 : w1.cell? ⟨w.heap.size + 1 + 1, 2, none⟩ = _ := cell_of_row _ _ 2 _ _ _ HX1.out.r2
  have r3 : w1.cell? ⟨w.heap.size + 1 + 1, 3, none⟩ = _ := cell_of_row _ _ 3 _ _ _ HX1.out.r2
  have r4 : w1.cell? ⟨w.heap.size + 1 + 1, 4, none⟩ = _ := cell_of_row _ _ 4 _ _ _ HX1.out.r2
  go_wp2_with fail
  refine (H1.out _ HX1.out.below).mono ?_
  rintro e w2 ⟨rfl, hq⟩
  have HX2 := Hid.mk (HX1.out.keep hq)
  clear hq
  clear p0 p1 p2 p3 p4 p5 p6 p7 p8 q0 q1 q2 q3 q4 q5 q6 q7 q8 r0 r1 r2 r3 r4
  have p0 : w2.cell? ⟨w.heap.size, 0, none⟩ = _ := cell_of_row _ _ 0 _ _ _ HX2.out.r0
  have p1 : w2.cell? ⟨w.heap.size, 1, none⟩ = _ := cell_of_row _ _ 1 _ _ _ HX2.out.r0
  have p2 : w2.cell? ⟨w.heap.size, 2, none⟩ = _ := cell_of_row _ _ 2 _ _ _ HX2.out.r0
  have p3 : w2.cell? ⟨w.heap.size, 3, none⟩ = _ := cell_of_row _ _ 3 _ _ _ HX2.out.r0
  have p4 : w2.cell? ⟨w.heap.size, 4, none⟩ = _ := cell_of_row _ _ 4 _ _ _ HX2.out.r0
  have p5 : w2.cell? ⟨w.heap.size, 5, none⟩ = _ := cell_of_row _ _ 5 _ _ _ HX2.out.r0
  have p6 : w2.cell? ⟨w.heap.size, 6, none⟩ = _ := cell_of_row _ _ 6 _ _ _ HX2.out.r0
  have p7 : w2.cell? ⟨w.heap.size, 7, none⟩ = _ := cell_of_row _ _ 7 _ _ _ HX2.out.r0
  have p8 : w2.cell? ⟨w.heap.size, 8, none⟩ = _ := cell_of_row _ _ 8 _ _ _ HX2.out.r0
  have q0 : w2.cell? ⟨w.heap.size + 1, 0, none⟩ = _ := cell_of_row _ _ 0 _ _ _ HX2.out.r1
  have q1 : w2.cell? ⟨w.heap.size + 1, 1, none⟩ = _ := cell_of_row _ _ 1 _ _ _ HX2.out.r1
  have q2 : w2.cell? ⟨w.heap.size + 1, 2, none⟩ = _ := cell_of_row _ _ 2 _ _ _ HX2.out.r1
  have q3 : w2.cell? ⟨w.heap.size + 1, 3, none⟩ = _ := cell_of_row _ _ 3 _ _ _ HX2.out.r1
  have q4 : w2.cell? ⟨w.heap.size + 1, 4, none⟩ = _ := cell_of_row _ _ 4 _ _ _ HX2.out.r1
  have q5 : w2.cell? ⟨w.heap.size + 1, 5, none⟩ = _ := cell_of_row _ _ 5 _ _ _ HX2.out.r1
  have q6 : w2.cell? ⟨w.heap.size + 1, 6, none⟩ = _ := cell_of_row _ _ 6 _ _ _ HX2.out.r1
  have q7 : w2.cell? ⟨w.heap.size + 1, 7, none⟩ = _ := cell_of_row _ _ 7 _ _ _ HX2.out.r1
  have q8 : w2.cell? ⟨w.heap.size + 1, 8, none⟩ = _ := cell_of_row _ _ 8 _ _ _ HX2.out.r1
  have r0 : w2.cell? ⟨w.heap.size + 1 + 1, 0, none⟩ = _ := cell_of_row _ _ 0 _ _ _ HX2.out.r2
  have r1 : w2.cell? ⟨w.heap.size + 1 + 1, 1, none⟩ = _ := cell_of_row _ _ 1 _ _ _ HX2.out.r2
  have r2 : w2.cell? ⟨w.heap.size + 1 + 1, 2, none⟩ = _ := cell_of_row _ _ 2 _ _ _ HX2.out.r2
  have r3 : w2.cell? ⟨w.heap.size + 1 + 1, 3, none⟩ = _ := cell_of_row _ _ 3 _ _ _ HX2.out.r2
  have r4 : w2.cell? ⟨w.heap.size + 1 + 1, 4, none⟩ = _ := cell_of_row _ _ 4 _ _ _ HX2.out.r2
  cases f1 with
  | false =>
    go_wp2_with fail
    go_ret
    exact ⟨by first | rfl | simp, HX2.out.below⟩
  | true =>
    go_wp2_with fail
    refine (H2.out _ HX2.out.below).mono ?_
    rintro e w3 ⟨rfl, hq⟩
    have HX3 := Hid.mk (HX2.out.keep hq)
    clear hq
    clear p0 p1 p2 p3 p4 p5 p6 p7 p8 q0 q1 q2 q3 q4 q5 q6 q7 q8 r0 r1 r2 r3 r4
    have p0 : w3.cell? ⟨w.heap.size, 0, none⟩ = _ := cell_of_row _ _ 0 _ _ _ HX3.out.r0
    have p1 : w3.cell? ⟨w.heap.size, 1, none⟩ = _ := cell_of_row _ _ 1 _ _ _ HX3.out.r0
    have p2 : w3.cell? ⟨w.heap.size, 2, none⟩ = _ := cell_of_row _ _ 2 _ _ _ HX3.out.r0
    have p3 : w3.cell? ⟨w.heap.size, 3, none⟩ = _ := cell_of_row _ _ 3 _ _ _ HX3.out.r0
    have p4 : w3.cell? ⟨w.heap.size, 4, none⟩ = _ := cell_of_row _ _ 4 _ _ _ HX3.out.r0
    have p5 : w3.cell? ⟨w.heap.size, 5, none⟩ = _ := cell_of_row _ _ 5 _ _ _ HX3.out.r0
    have p6 : w3.cell? ⟨w.heap.size, 6, none⟩ = _ := cell_of_row _ _ 6 _ _ _ HX3.out.r0
    have p7 : w3.cell? ⟨w.heap.size, 7, none⟩ = _ := cell_of_row _ _ 7 _ _ _ HX3.out.r0
    have p8 : w3.cell? ⟨w.heap.size, 8, none⟩ = _ := cell_of_row _ _ 8 _ _ _ HX3.out.r0
    have q0 : w3.cell? ⟨w.heap.size + 1, 0, none⟩ = _ := cell_of_row _ _ 0 _ _ _ HX3.out.r1
    have q1 : w3.cell? ⟨w.heap.size + 1, 1, none⟩ = _ := cell_of_row _ _ 1 _ _ _ HX3.out.r1
    have q2 : w3.cell? ⟨w.heap.size + 1, 2, none⟩ = _ := cell_of_row _ _ 2 _ _ _ HX3.out.r1
    have q3 : w3.cell? ⟨w.heap.size + 1, 3, none⟩ = _ := cell_of_row _ _ 3 _ _ _ HX3.out.r1
    have q4 : w3.cell? ⟨w.heap.size + 1, 4, none⟩ = _ := cell_of_row _ _ 4 _ _ _ HX3.out.r1
    have q5 : w3.cell? ⟨w.heap.size + 1, 5, none⟩ = _ := cell_of_row _ _ 5 _ _ _ HX3.out.r1
    have q6 : w3.cell? ⟨w.heap.size + 1, 6, none⟩ = _ := cell_of_row _ _ 6 _ _ _ HX3.out.r1
    have q7 : w3.cell? ⟨w.heap.size + 1, 7, none⟩ = _ := cell_of_row _ _ 7 _ _ _ HX3.out.r1
    have q8 : w3.cell? ⟨w.heap.size + 1, 8, none⟩ = _ := cell_of_row _ _ 8 _ _ _ HX3.out.r1
    have r0 : w3.cell? ⟨w.heap.size + 1 + 1, 0, none⟩ = _ := cell_of_row _ _ 0 _ _ _ HX3.out.r2
    have r1 : w3.cell? ⟨w.heap.size + 1 + 1, 1, none⟩ = _ := cell_of_row _ _ 1 _ _ _ HX3.out.r2
    have r2 : w3.cell? ⟨w.heap.size + 1 + 1, 2, none⟩ = _ := cell_of_row _ _ 2 _ _ _ HX3.out.r2
    have r3 : w3.cell? ⟨w.heap.size + 1 + 1, 3, none⟩ = _ := cell_of_row _ _ 3 _ _ _ HX3.out.r2
    have r4 : w3.cell? ⟨w.heap.size + 1 + 1, 4, none⟩ = _ := cell_of_row _ _ 4 _ _ _ HX3.out.r2
    cases f2 with
    | false =>
      go_wp2_with fail
      go_ret
      exact ⟨by first | rfl | simp, HX3.out.below⟩
    | true =>
      obtain ⟨FB, hFB⟩ : ∃ FB, w3.heap.size = FB := ⟨_, rfl⟩
      obtain ⟨w3a, hw3a⟩ : ∃ w3a, w3.alloc (.cells #[.int .i64 kd, .string nm, .string tx, .slice io NI icap, .slice ko NK kcap] 33) = w3a := ⟨_, rfl⟩
      have hb3 : Below w3.heap.size w3 w3a := by rw [← hw3a]; exact below1 w3 _
      have HX3a := Hid.mk (HX3.out.keep hb3)
      have hFR : w3a.heap[FB]? = some (.cells #[.int .i64 kd, .string nm, .string tx, .slice io NI icap, .slice ko NK kcap] 33 (0, 0)) := by rw [← hw3a, ← hFB]; exact World.alloc_heap_new w3 _
      have HC3 := Hid.mk (H3.out w3a FB HX3a.out.below hFR)
      have HWq := Hid.mk hw3a
      have HBq := Hid.mk hFB
      clear hb3 hFR hw3a hFB
      go_wp2_with fail
      try rw [HWq.out]
      try rw [HBq.out]
      clear HWq HBq
      refine HC3.out.mono ?_
      rintro e w4 ⟨rfl, hq⟩
      have HX4 := Hid.mk (HX3a.out.keep hq)
      clear hq
      clear p0 p1 p2 p3 p4 p5 p6 p7 p8 q0 q1 q2 q3 q4 q5 q6 q7 q8 r0 r1 r2 r3 r4
      have p0 : w4.cell? ⟨w.heap.size, 0, none⟩ = _ := cell_of_row _ _ 0 _ _ _ HX4.out.r0
      have p1 : w4.cell? ⟨w.heap.size, 1, none⟩ = _ := cell_of_row _ _ 1 _ _ _ HX4.out.r0
      have p2 : w4.cell? ⟨w.heap.size, 2, none⟩ = _ := cell_of_row _ _ 2 _ _ _ HX4.out.r0
      have p3 : w4.cell? ⟨w.heap.size, 3, none⟩ = _ := cell_of_row _ _ 3 _ _ _ HX4.out.r0
      have p4 : w4.cell? ⟨w.heap.size, 4, none⟩ = _ := cell_of_row _ _ 4 _ _ _ HX4.out.r0
      have p5 : w4.cell? ⟨w.heap.size, 5, none⟩ = _ := cell_of_row _ _ 5 _ _ _ HX4.out.r0
      have p6 : w4.cell? ⟨w.heap.size, 6, none⟩ = _ := cell_of_row _ _ 6 _ _ _ HX4.out.r0
      have p7 : w4.cell? ⟨w.heap.size, 7, none⟩ = _ := cell_of_row _ _ 7 _ _ _ HX4.out.r0
      have p8 : w4.cell? ⟨w.heap.size, 8, none⟩ = _ := cell_of_row _ _ 8 _ _ _ HX4.out.r0
      have q0 : w4.cell? ⟨w.heap.size + 1, 0, none⟩ = _ := cell_of_row _ _ 0 _ _ _ HX4.out.r1
      have q1 : w4.cell? ⟨w.heap.size + 1, 1, none⟩ = _ := cell_of_row _ _ 1 _ _ _ HX4.out.r1
      have q2 : w4.cell? ⟨w.heap.size + 1, 2, none⟩ = _ := cell_of_row _ _ 2 _ _ _ HX4.out.r1
      have q3 : w4.cell? ⟨w.heap.size + 1, 3, none⟩ = _ := cell_of_row _ _ 3 _ _ _ HX4.out.r1
      have q4 : w4.cell? ⟨w.heap.size + 1, 4, none⟩ = _ := cell_of_row _ _ 4 _ _ _ HX4.out.r1
      have q5 : w4.cell? ⟨w.heap.size + 1, 5, none⟩ = _ := cell_of_row _ _ 5 _ _ _ HX4.out.r1
      have q6 : w4.cell? ⟨w.heap.size + 1, 6, none⟩ = _ := cell_of_row _ _ 6 _ _ _ HX4.out.r1
      have q7 : w4.cell? ⟨w.heap.size + 1, 7, none⟩ = _ := cell_of_row _ _ 7 _ _ _ HX4.out.r1
      have q8 : w4.cell? ⟨w.heap.size + 1, 8, none⟩ = _ := cell_of_row _ _ 8 _ _ _ HX4.out.r1
      have r0 : w4.cell? ⟨w.heap.size + 1 + 1, 0, none⟩ = _ := cell_of_row _ _ 0 _ _ _ HX4.out.r2
      have r1 : w4.cell? ⟨w.heap.size + 1 + 1, 1, none⟩ = _ := cell_of_row _ _ 1 _ _ _ HX4.out.r2
      have r2 : w4.cell? ⟨w.heap.size + 1 + 1, 2, none⟩ = _ := cell_of_row _ _ 2 _ _ _ HX4.out.r2
      have r3 : w4.cell? ⟨w.heap.size + 1 + 1, 3, none⟩ = _ := cell_of_row _ _ 3 _ _ _ HX4.out.r2
      have r4 : w4.cell? ⟨w.heap.size + 1 + 1, 4, none⟩ = _ := cell_of_row _ _ 4 _ _ _ HX4.out.r2
      cases s with
      | false =>
        go_wp2_with fail
        go_ret
        exact ⟨by first | rfl | simp, HX4.out.below⟩
      | true =>
        go_wp2_with fail
        refine (H4.out _ HX4.out.below).mono ?_
        rintro e w5 ⟨rfl, hq⟩
        have HX5 := Hid.mk (HX4.out.keep hq)
        clear hq
        clear p0 p1 p2 p3 p4 p5 p6 p7 p8 q0 q1 q2 q3 q4 q5 q6 q7 q8 r0 r1 r2 r3 r4
        have p0 : w5.cell? ⟨w.heap.size, 0, none⟩ = _ := cell_of_row _ _ 0 _ _ _ HX5.out.r0
        have p1 : w5.cell? ⟨w.heap.size, 1, none⟩ = _ := cell_of_row _ _ 1 _ _ _ HX5.out.r0
        have p2 : w5.cell? ⟨w.heap.size, 2, none⟩ = _ := cell_of_row _ _ 2 _ _ _ HX5.out.r0
        have p3 : w5.cell? ⟨w.heap.size, 3, none⟩ = _ := cell_of_row _ _ 3 _ _ _ HX5.out.r0
        have p4 : w5.cell? ⟨w.heap.size, 4, none⟩ = _ := cell_of_row _ _ 4 _ _ _ HX5.out.r0
        have p5 : w5.cell? ⟨w.heap.size, 5, none⟩ = _ := cell_of_row _ _ 5 _ _ _ HX5.out.r0
        have p6 : w5.cell? ⟨w.heap.size, 6, none⟩ = _ := cell_of_row _ _ 6 _ _ _ HX5.out.r0
        have p7 : w5.cell? ⟨w.heap.size, 7, none⟩ = _ := cell_of_row _ _ 7 _ _ _ HX5.out.r0
        have p8 : w5.cell? ⟨w.heap.size, 8, none⟩ = _ := cell_of_row _ _ 8 _ _ _ HX5.out.r0
        have q0 : w5.cell? ⟨w.heap.size + 1, 0, none⟩ = _ := cell_of_row _ _ 0 _ _ _ HX5.out.r1
        have q1 : w5.cell? ⟨w.heap.size + 1, 1, none⟩ = _ := cell_of_row _ _ 1 _ _ _ HX5.out.r1
        have q2 : w5.cell? ⟨w.heap.size + 1, 2, none⟩ = _ := cell_of_row _ _ 2 _ _ _ HX5.out.r1
        have q3 : w5.cell? ⟨w.heap.size + 1, 3, none⟩ = _ := cell_of_row _ _ 3 _ _ _ HX5.out.r1
        have q4 : w5.cell? ⟨w.heap.size + 1, 4, none⟩ = _ := cell_of_row _ _ 4 _ _ _ HX5.out.r1
        have q5 : w5.cell? ⟨w.heap.size + 1, 5, none⟩ = _ := cell_of_row _ _ 5 _ _ _ HX5.out.r1
        have q6 : w5.cell? ⟨w.heap.size + 1, 6, none⟩ = _ := cell_of_row _ _ 6 _ _ _ HX5.out.r1
        have q7 : w5.cell? ⟨w.heap.size + 1, 7, none⟩ = _ := cell_of_row _ _ 7 _ _ _ HX5.out.r1
        have q8 : w5.cell? ⟨w.heap.size + 1, 8, none⟩ = _ := cell_of_row _ _ 8 _ _ _ HX5.out.r1
        have r0 : w5.cell? ⟨w.heap.size + 1 + 1, 0, none⟩ = _ := cell_of_row _ _ 0 _ _ _ HX5.out.r2
        have r1 : w5.cell? ⟨w.heap.size + 1 + 1, 1, none⟩ = _ := cell_of_row _ _ 1 _ _ _ HX5.out.r2
        have r2 : w5.cell? ⟨w.heap.size + 1 + 1, 2, none⟩ = _ := cell_of_row _ _ 2 _ _ _ HX5.out.r2
        have r3 : w5.cell? ⟨w.heap.size + 1 + 1, 3, none⟩ = _ := cell_of_row _ _ 3 _ _ _ HX5.out.r2
        have r4 : w5.cell? ⟨w.heap.size + 1 + 1, 4, none⟩ = _ := cell_of_row _ _ 4 _ _ _ HX5.out.r2
        cases v with
        | false =>
          go_wp2_with fail
          go_ret
          exact ⟨by first | rfl | simp, HX5.out.below⟩
        | true =>
          go_wp2_with fail
          refine (H5.out (by first | trivial | rfl) (by first | trivial | rfl) _ HX5.out.below).mono ?_
          rintro e w6 ⟨rfl, hq⟩
          have HX6 := Hid.mk (HX5.out.keep hq)
          clear hq
          clear p0 p1 p2 p3 p4 p5 p6 p7 p8 q0 q1 q2 q3 q4 q5 q6 q7 q8 r0 r1 r2 r3 r4
          have p0 : w6.cell? ⟨w.heap.size, 0, none⟩ = _ := cell_of_row _ _ 0 _ _ _ HX6.out.r0
          have p1 : w6.cell? ⟨w.heap.size, 1, none⟩ = _ := cell_of_row _ _ 1 _ _ _ HX6.out.r0
          have p2 : w6.cell? ⟨w.heap.size, 2, none⟩ = _ := cell_of_row _ _ 2 _ _ _ HX6.out.r0
          have p3 : w6.cell? ⟨w.heap.size, 3, none⟩ = _ := cell_of_row _ _ 3 _ _ _ HX6.out.r0
          have p4 : w6.cell? ⟨w.heap.size, 4, none⟩ = _ := cell_of_row _ _ 4 _ _ _ HX6.out.r0
          have p5 : w6.cell? ⟨w.heap.size, 5, none⟩ = _ := cell_of_row _ _ 5 _ _ _ HX6.out.r0
          have p6 : w6.cell? ⟨w.heap.size, 6, none⟩ = _ := cell_of_row _ _ 6 _ _ _ HX6.out.r0
          have p7 : w6.cell? ⟨w.heap.size, 7, none⟩ = _ := cell_of_row _ _ 7 _ _ _ HX6.out.r0
          have p8 : w6.cell? ⟨w.heap.size, 8, none⟩ = _ := cell_of_row _ _ 8 _ _ _ HX6.out.r0
          have q0 : w6.cell? ⟨w.heap.size + 1, 0, none⟩ = _ := cell_of_row _ _ 0 _ _ _ HX6.out.r1
          have q1 : w6.cell? ⟨w.heap.size + 1, 1, none⟩ = _ := cell_of_row _ _ 1 _ _ _ HX6.out.r1
          have q2 : w6.cell? ⟨w.heap.size + 1, 2, none⟩ = _ := cell_of_row _ _ 2 _ _ _ HX6.out.r1
          have q3 : w6.cell? ⟨w.heap.size + 1, 3, none⟩ = _ := cell_of_row _ _ 3 _ _ _ HX6.out.r1
          have q4 : w6.cell? ⟨w.heap.size + 1, 4, none⟩ = _ := cell_of_row _ _ 4 _ _ _ HX6.out.r1
          have q5 : w6.cell? ⟨w.heap.size + 1, 5, none⟩ = _ := cell_of_row _ _ 5 _ _ _ HX6.out.r1
          have q6 : w6.cell? ⟨w.heap.size + 1, 6, none⟩ = _ := cell_of_row _ _ 6 _ _ _ HX6.out.r1
          have q7 : w6.cell? ⟨w.heap.size + 1, 7, none⟩ = _ := cell_of_row _ _ 7 _ _ _ HX6.out.r1
          have q8 : w6.cell? ⟨w.heap.size + 1, 8, none⟩ = _ := cell_of_row _ _ 8 _ _ _ HX6.out.r1
          have r0 : w6.cell? ⟨w.heap.size + 1 + 1, 0, none⟩ = _ := cell_of_row _ _ 0 _ _ _ HX6.out.r2
          have r1 : w6.cell? ⟨w.heap.size + 1 + 1, 1, none⟩ = _ := cell_of_row _ _ 1 _ _ _ HX6.out.r2
          have r2 : w6.cell? ⟨w.heap.size + 1 + 1, 2, none⟩ = _ := cell_of_row _ _ 2 _ _ _ HX6.out.r2
          have r3 : w6.cell? ⟨w.heap.size + 1 + 1, 3, none⟩ = _ := cell_of_row _ _ 3 _ _ _ HX6.out.r2
          have r4 : w6.cell? ⟨w.heap.size + 1 + 1, 4, none⟩ = _ := cell_of_row _ _ 4 _ _ _ HX6.out.r2
          go_wp2_with fail
          refine (H6.out (by first | trivial | rfl) (by first | trivial | rfl) _ HX6.out.below).mono ?_
          rintro e w7 ⟨rfl, hq⟩
          have HX7 := Hid.mk (HX6.out.keep hq)
          clear hq
          clear p0 p1 p2 p3 p4 p5 p6 p7 p8 q0 q1 q2 q3 q4 q5 q6 q7 q8 r0 r1 r2 r3 r4
          have p0 : w7.cell? ⟨w.heap.size, 0, none⟩ = _ := cell_of_row _ _ 0 _ _ _ HX7.out.r0
          have p1 : w7.cell? ⟨w.heap.size, 1, none⟩ = _ := cell_of_row _ _ 1 _ _ _ HX7.out.r0
          have p2 : w7.cell? ⟨w.heap.size, 2, none⟩ = _ := cell_of_row _ _ 2 _ _ _ HX7.out.r0
          have p3 : w7.cell? ⟨w.heap.size, 3, none⟩ = _ := cell_of_row _ _ 3 _ _ _ HX7.out.r0
          have p4 : w7.cell? ⟨w.heap.size, 4, none⟩ = _ := cell_of_row _ _ 4 _ _ _ HX7.out.r0
          have p5 : w7.cell? ⟨w.heap.size, 5, none⟩ = _ := cell_of_row _ _ 5 _ _ _ HX7.out.r0
          have p6 : w7.cell? ⟨w.heap.size, 6, none⟩ = _ := cell_of_row _ _ 6 _ _ _ HX7.out.r0
          have p7 : w7.cell? ⟨w.heap.size, 7, none⟩ = _ := cell_of_row _ _ 7 _ _ _ HX7.out.r0
          have p8 : w7.cell? ⟨w.heap.size, 8, none⟩ = _ := cell_of_row _ _ 8 _ _ _ HX7.out.r0
          have q0 : w7.cell? ⟨w.heap.size + 1, 0, none⟩ = _ := cell_of_row _ _ 0 _ _ _ HX7.out.r1
          have q1 : w7.cell? ⟨w.heap.size + 1, 1, none⟩ = _ := cell_of_row _ _ 1 _ _ _ HX7.out.r1
          have q2 : w7.cell? ⟨w.heap.size + 1, 2, none⟩ = _ := cell_of_row _ _ 2 _ _ _ HX7.out.r1
          have q3 : w7.cell? ⟨w.heap.size + 1, 3, none⟩ = _ := cell_of_row _ _ 3 _ _ _ HX7.out.r1
          have q4 : w7.cell? ⟨w.heap.size + 1, 4, none⟩ = _ := cell_of_row _ _ 4 _ _ _ HX7.out.r1
          have q5 : w7.cell? ⟨w.heap.size + 1, 5, none⟩ = _ := cell_of_row _ _ 5 _ _ _ HX7.out.r1
          have q6 : w7.cell? ⟨w.heap.size + 1, 6, none⟩ = _ := cell_of_row _ _ 6 _ _ _ HX7.out.r1
          have q7 : w7.cell? ⟨w.heap.size + 1, 7, none⟩ = _ := cell_of_row _ _ 7 _ _ _ HX7.out.r1
          have q8 : w7.cell? ⟨w.heap.size + 1, 8, none⟩ = _ := cell_of_row _ _ 8 _ _ _ HX7.out.r1
          have r0 : w7.cell? ⟨w.heap.size + 1 + 1, 0, none⟩ = _ := cell_of_row _ _ 0 _ _ _ HX7.out.r2
          have r1 : w7.cell? ⟨w.heap.size + 1 + 1, 1, none⟩ = _ := cell_of_row _ _ 1 _ _ _ HX7.out.r2
          have r2 : w7.cell? ⟨w.heap.size + 1 + 1, 2, none⟩ = _ := cell_of_row _ _ 2 _ _ _ HX7.out.r2
          have r3 : w7.cell? ⟨w.heap.size + 1 + 1, 3, none⟩ = _ := cell_of_row _ _ 3 _ _ _ HX7.out.r2
          have r4 : w7.cell? ⟨w.heap.size + 1 + 1, 4, none⟩ = _ := cell_of_row _ _ 4 _ _ _ HX7.out.r2
          go_wp2_with fail
          refine (H7.out (by first | trivial | rfl) (by first | trivial | rfl) _ HX7.out.below).mono ?_
          rintro e w8 ⟨rfl, hq⟩
          have HX8 := Hid.mk (HX7.out.keep hq)
          clear hq
          clear p0 p1 p2 p3 p4 p5 p6 p7 p8 q0 q1 q2 q3 q4 q5 q6 q7 q8 r0 r1 r2 r3 r4
          have p0 : w8.cell? ⟨w.heap.size, 0, none⟩ = _ := cell_of_row _ _ 0 _ _ _ HX8.out.r0
          have p1 : w8.cell? ⟨w.heap.size, 1, none⟩ = _ := cell_of_row _ _ 1 _ _ _ HX8.out.r0
          have p2 : w8.cell? ⟨w.heap.size, 2, none⟩ = _ := cell_of_row _ _ 2 _ _ _ HX8.out.r0
          have p3 : w8.cell? ⟨w.heap.size, 3, none⟩ = _ := cell_of_row _ _ 3 _ _ _ HX8.out.r0
          have p4 : w8.cell? ⟨w.heap.size, 4, none⟩ = _ := cell_of_row _ _ 4 _ _ _ HX8.out.r0
          have p5 : w8.cell? ⟨w.heap.size, 5, none⟩ = _ := cell_of_row _ _ 5 _ _ _ HX8.out.r0
          have p6 : w8.cell? ⟨w.heap.size, 6, none⟩ = _ := cell_of_row _ _ 6 _ _ _ HX8.out.r0
          have p7 : w8.cell? ⟨w.heap.size, 7, none⟩ = _ := cell_of_row _ _ 7 _ _ _ HX8.out.r0
          have p8 : w8.cell? ⟨w.heap.size, 8, none⟩ = _ := cell_of_row _ _ 8 _ _ _ HX8.out.r0
          have q0 : w8.cell? ⟨w.heap.size + 1, 0, none⟩ = _ := cell_of_row _ _ 0 _ _ _ HX8.out.r1
          have q1 : w8.cell? ⟨w.heap.size + 1, 1, none⟩ = _ := cell_of_row _ _ 1 _ _ _ HX8.out.r1
          have q2 : w8.cell? ⟨w.heap.size + 1, 2, none⟩ = _ := cell_of_row _ _ 2 _ _ _ HX8.out.r1
          have q3 : w8.cell? ⟨w.heap.size + 1, 3, none⟩ = _ := cell_of_row _ _ 3 _ _ _ HX8.out.r1
          have q4 : w8.cell? ⟨w.heap.size + 1, 4, none⟩ = _ := cell_of_row _ _ 4 _ _ _ HX8.out.r1
          have q5 : w8.cell? ⟨w.heap.size + 1, 5, none⟩ = _ := cell_of_row _ _ 5 _ _ _ HX8.out.r1
          have q6 : w8.cell? ⟨w.heap.size + 1, 6, none⟩ = _ := cell_of_row _ _ 6 _ _ _ HX8.out.r1
          have q7 : w8.cell? ⟨w.heap.size + 1, 7, none⟩ = _ := cell_of_row _ _ 7 _ _ _ HX8.out.r1
          have q8 : w8.cell? ⟨w.heap.size + 1, 8, none⟩ = _ := cell_of_row _ _ 8 _ _ _ HX8.out.r1
          have r0 : w8.cell? ⟨w.heap.size + 1 + 1, 0, none⟩ = _ := cell_of_row _ _ 0 _ _ _ HX8.out.r2
          have r1 : w8.cell? ⟨w.heap.size + 1 + 1, 1, none⟩ = _ := cell_of_row _ _ 1 _ _ _ HX8.out.r2
          have r2 : w8.cell? ⟨w.heap.size + 1 + 1, 2, none⟩ = _ := cell_of_row _ _ 2 _ _ _ HX8.out.r2
          have r3 : w8.cell? ⟨w.heap.size + 1 + 1, 3, none⟩ = _ := cell_of_row _ _ 3 _ _ _ HX8.out.r2
          have r4 : w8.cell? ⟨w.heap.size + 1 + 1, 4, none⟩ = _ := cell_of_row _ _ 4 _ _ _ HX8.out.r2
          have HEE := Hid.mk (HE.out (by first | trivial | rfl) (by first | trivial | rfl) (by first | trivial | rfl))
          cases b with
          | true =>
            cases i1 with
            | true =>
              cases i2 with
              | true =>
                go_wp2_with fail
                refine (H8.out (by first | trivial | rfl) (by first | trivial | rfl) _ HX8.out.below).mono ?_
                rintro e w9 ⟨rfl, hq⟩
                have HX9 := Hid.mk (HX8.out.keep hq)
                clear hq
                clear p0 p1 p2 p3 p4 p5 p6 p7 p8 q0 q1 q2 q3 q4 q5 q6 q7 q8 r0 r1 r2 r3 r4
                have p0 : w9.cell? ⟨w.heap.size, 0, none⟩ = _ := cell_of_row _ _ 0 _ _ _ HX9.out.r0
                have p1 : w9.cell? ⟨w.heap.size, 1, none⟩ = _ := cell_of_row _ _ 1 _ _ _ HX9.out.r0
                have p2 : w9.cell? ⟨w.heap.size, 2, none⟩ = _ := cell_of_row _ _ 2 _ _ _ HX9.out.r0
                have p3 : w9.cell? ⟨w.heap.size, 3, none⟩ = _ := cell_of_row _ _ 3 _ _ _ HX9.out.r0
                have p4 : w9.cell? ⟨w.heap.size, 4, none⟩ = _ := cell_of_row _ _ 4 _ _ _ HX9.out.r0
                have p5 : w9.cell? ⟨w.heap.size, 5, none⟩ = _ := cell_of_row _ _ 5 _ _ _ HX9.out.r0
                have p6 : w9.cell? ⟨w.heap.size, 6, none⟩ = _ := cell_of_row _ _ 6 _ _ _ HX9.out.r0
                have p7 : w9.cell? ⟨w.heap.size, 7, none⟩ = _ := cell_of_row _ _ 7 _ _ _ HX9.out.r0
                have p8 : w9.cell? ⟨w.heap.size, 8, none⟩ = _ := cell_of_row _ _ 8 _ _ _ HX9.out.r0
                have q0 : w9.cell? ⟨w.heap.size + 1, 0, none⟩ = _ := cell_of_row _ _ 0 _ _ _ HX9.out.r1
                have q1 : w9.cell? ⟨w.heap.size + 1, 1, none⟩ = _ := cell_of_row _ _ 1 _ _ _ HX9.out.r1
                have q2 : w9.cell? ⟨w.heap.size + 1, 2, none⟩ = _ := cell_of_row _ _ 2 _ _ _ HX9.out.r1
                have q3 : w9.cell? ⟨w.heap.size + 1, 3, none⟩ = _ := cell_of_row _ _ 3 _ _ _ HX9.out.r1
                have q4 : w9.cell? ⟨w.heap.size + 1, 4, none⟩ = _ := cell_of_row _ _ 4 _ _ _ HX9.out.r1
                have q5 : w9.cell? ⟨w.heap.size + 1, 5, none⟩ = _ := cell_of_row _ _ 5 _ _ _ HX9.out.r1
                have q6 : w9.cell? ⟨w.heap.size + 1, 6, none⟩ = _ := cell_of_row _ _ 6 _ _ _ HX9.out.r1
                have q7 : w9.cell? ⟨w.heap.size + 1, 7, none⟩ = _ := cell_of_row _ _ 7 _ _ _ HX9.out.r1
                have q8 : w9.cell? ⟨w.heap.size + 1, 8, none⟩ = _ := cell_of_row _ _ 8 _ _ _ HX9.out.r1
                have r0 : w9.cell? ⟨w.heap.size + 1 + 1, 0, none⟩ = _ := cell_of_row _ _ 0 _ _ _ HX9.out.r2
                have r1 : w9.cell? ⟨w.heap.size + 1 + 1, 1, none⟩ = _ := cell_of_row _ _ 1 _ _ _ HX9.out.r2
                have r2 : w9.cell? ⟨w.heap.size + 1 + 1, 2, none⟩ = _ := cell_of_row _ _ 2 _ _ _ HX9.out.r2
                have r3 : w9.cell? ⟨w.heap.size + 1 + 1, 3, none⟩ = _ := cell_of_row _ _ 3 _ _ _ HX9.out.r2
                have r4 : w9.cell? ⟨w.heap.size + 1 + 1, 4, none⟩ = _ := cell_of_row _ _ 4 _ _ _ HX9.out.r2

                cases p with
                | true => exact absurd (HEE.out.2 (by first | trivial | rfl) (by first | trivial | rfl) (by first | trivial | rfl)) id
                | false =>
                  go_wp2_with fail
                  go_ret
                  exact ⟨by first | rfl | simp, HX9.out.below⟩
              | false => exact absurd (HEE.out.1 (by first | trivial | rfl) (by first | trivial | rfl)) (by simp)
            | false =>
              go_wp2_with fail
              refine (H8.out (by first | trivial | rfl) (by first | trivial | rfl) _ HX8.out.below).mono ?_
              rintro e w9 ⟨rfl, hq⟩
              have HX9 := Hid.mk (HX8.out.keep hq)
              clear hq
              clear p0 p1 p2 p3 p4 p5 p6 p7 p8 q0 q1 q2 q3 q4 q5 q6 q7 q8 r0 r1 r2 r3 r4
              have p0 : w9.cell? ⟨w.heap.size, 0, none⟩ = _ := cell_of_row _ _ 0 _ _ _ HX9.out.r0
              have p1 : w9.cell? ⟨w.heap.size, 1, none⟩ = _ := cell_of_row _ _ 1 _ _ _ HX9.out.r0
              have p2 : w9.cell? ⟨w.heap.size, 2, none⟩ = _ := cell_of_row _ _ 2 _ _ _ HX9.out.r0
              have p3 : w9.cell? ⟨w.heap.size, 3, none⟩ = _ := cell_of_row _ _ 3 _ _ _ HX9.out.r0
              have p4 : w9.cell? ⟨w.heap.size, 4, none⟩ = _ := cell_of_row _ _ 4 _ _ _ HX9.out.r0
              have p5 : w9.cell? ⟨w.heap.size, 5, none⟩ = _ := cell_of_row _ _ 5 _ _ _ HX9.out.r0
              have p6 : w9.cell? ⟨w.heap.size, 6, none⟩ = _ := cell_of_row _ _ 6 _ _ _ HX9.out.r0
              have p7 : w9.cell? ⟨w.heap.size, 7, none⟩ = _ := cell_of_row _ _ 7 _ _ _ HX9.out.r0
              have p8 : w9.cell? ⟨w.heap.size, 8, none⟩ = _ := cell_of_row _ _ 8 _ _ _ HX9.out.r0
              have q0 : w9.cell? ⟨w.heap.size + 1, 0, none⟩ = _ := cell_of_row _ _ 0 _ _ _ HX9.out.r1
              have q1 : w9.cell? ⟨w.heap.size + 1, 1, none⟩ = _ := cell_of_row _ _ 1 _ _ _ HX9.out.r1
              have q2 : w9.cell? ⟨w.heap.size + 1, 2, none⟩ = _ := cell_of_row _ _ 2 _ _ _ HX9.out.r1
              have q3 : w9.cell? ⟨w.heap.size + 1, 3, none⟩ = _ := cell_of_row _ _ 3 _ _ _ HX9.out.r1
              have q4 : w9.cell? ⟨w.heap.size + 1, 4, none⟩ = _ := cell_of_row _ _ 4 _ _ _ HX9.out.r1
              have q5 : w9.cell? ⟨w.heap.size + 1, 5, none⟩ = _ := cell_of_row _ _ 5 _ _ _ HX9.out.r1
              have q6 : w9.cell? ⟨w.heap.size + 1, 6, none⟩ = _ := cell_of_row _ _ 6 _ _ _ HX9.out.r1
              have q7 : w9.cell? ⟨w.heap.size + 1, 7, none⟩ = _ := cell_of_row _ _ 7 _ _ _ HX9.out.r1
              have q8 : w9.cell? ⟨w.heap.size + 1, 8, none⟩ = _ := cell_of_row _ _ 8 _ _ _ HX9.out.r1
              have r0 : w9.cell? ⟨w.heap.size + 1 + 1, 0, none⟩ = _ := cell_of_row _ _ 0 _ _ _ HX9.out.r2
              have r1 : w9.cell? ⟨w.heap.size + 1 + 1, 1, none⟩ = _ := cell_of_row _ _ 1 _ _ _ HX9.out.r2
              have r2 : w9.cell? ⟨w.heap.size + 1 + 1, 2, none⟩ = _ := cell_of_row _ _ 2 _ _ _ HX9.out.r2
              have r3 : w9.cell? ⟨w.heap.size + 1 + 1, 3, none⟩ = _ := cell_of_row _ _ 3 _ _ _ HX9.out.r2
              have r4 : w9.cell? ⟨w.heap.size + 1 + 1, 4, none⟩ = _ := cell_of_row _ _ 4 _ _ _ HX9.out.r2

              cases p with
              | true =>
                go_wp2_with fail
                go_ret
                exact ⟨by first | rfl | simp, HX9.out.below⟩
              | false =>
                go_wp2_with fail
                go_ret
                exact ⟨by first | rfl | simp, HX9.out.below⟩
          | false =>
            go_wp2_with fail
            refine (H8.out (by first | trivial | rfl) (by first | trivial | rfl) _ HX8.out.below).mono ?_
            rintro e w9 ⟨rfl, hq⟩
            have HX9 := Hid.mk (HX8.out.keep hq)
            clear hq
            clear p0 p1 p2 p3 p4 p5 p6 p7 p8 q0 q1 q2 q3 q4 q5 q6 q7 q8 r0 r1 r2 r3 r4
            have p0 : w9.cell? ⟨w.heap.size, 0, none⟩ = _ := cell_of_row _ _ 0 _ _ _ HX9.out.r0
            have p1 : w9.cell? ⟨w.heap.size, 1, none⟩ = _ := cell_of_row _ _ 1 _ _ _ HX9.out.r0
            have p2 : w9.cell? ⟨w.heap.size, 2, none⟩ = _ := cell_of_row _ _ 2 _ _ _ HX9.out.r0
            have p3 : w9.cell? ⟨w.heap.size, 3, none⟩ = _ := cell_of_row _ _ 3 _ _ _ HX9.out.r0
            have p4 : w9.cell? ⟨w.heap.size, 4, none⟩ = _ := cell_of_row _ _ 4 _ _ _ HX9.out.r0
            have p5 : w9.cell? ⟨w.heap.size, 5, none⟩ = _ := cell_of_row _ _ 5 _ _ _ HX9.out.r0
            have p6 : w9.cell? ⟨w.heap.size, 6, none⟩ = _ := cell_of_row _ _ 6 _ _ _ HX9.out.r0
            have p7 : w9.cell? ⟨w.heap.size, 7, none⟩ = _ := cell_of_row _ _ 7 _ _ _ HX9.out.r0
            have p8 : w9.cell? ⟨w.heap.size, 8, none⟩ = _ := cell_of_row _ _ 8 _ _ _ HX9.out.r0
            have q0 : w9.cell? ⟨w.heap.size + 1, 0, none⟩ = _ := cell_of_row _ _ 0 _ _ _ HX9.out.r1
            have q1 : w9.cell? ⟨w.heap.size + 1, 1, none⟩ = _ := cell_of_row _ _ 1 _ _ _ HX9.out.r1
            have q2 : w9.cell? ⟨w.heap.size + 1, 2, none⟩ = _ := cell_of_row _ _ 2 _ _ _ HX9.out.r1
            have q3 : w9.cell? ⟨w.heap.size + 1, 3, none⟩ = _ := cell_of_row _ _ 3 _ _ _ HX9.out.r1
            have q4 : w9.cell? ⟨w.heap.size + 1, 4, none⟩ = _ := cell_of_row _ _ 4 _ _ _ HX9.out.r1
            have q5 : w9.cell? ⟨w.heap.size + 1, 5, none⟩ = _ := cell_of_row _ _ 5 _ _ _ HX9.out.r1
            have q6 : w9.cell? ⟨w.heap.size + 1, 6, none⟩ = _ := cell_of_row _ _ 6 _ _ _ HX9.out.r1
            have q7 : w9.cell? ⟨w.heap.size + 1, 7, none⟩ = _ := cell_of_row _ _ 7 _ _ _ HX9.out.r1
            have q8 : w9.cell? ⟨w.heap.size + 1, 8, none⟩ = _ := cell_of_row _ _ 8 _ _ _ HX9.out.r1
            have r0 : w9.cell? ⟨w.heap.size + 1 + 1, 0, none⟩ = _ := cell_of_row _ _ 0 _ _ _ HX9.out.r2
            have r1 : w9.cell? ⟨w.heap.size + 1 + 1, 1, none⟩ = _ := cell_of_row _ _ 1 _ _ _ HX9.out.r2
            have r2 : w9.cell? ⟨w.heap.size + 1 + 1, 2, none⟩ = _ := cell_of_row _ _ 2 _ _ _ HX9.out.r2
            have r3 : w9.cell? ⟨w.heap.size + 1 + 1, 3, none⟩ = _ := cell_of_row _ _ 3 _ _ _ HX9.out.r2
            have r4 : w9.cell? ⟨w.heap.size + 1 + 1, 4, none⟩ = _ := cell_of_row _ _ 4 _ _ _ HX9.out.r2

            cases p with
            | true =>
              cases i1 with
              | true =>
                cases i2 with
                | true => exact absurd (HEE.out.2 (by first | trivial | rfl) (by first | trivial | rfl) (by first | trivial | rfl)) id
                | false =>
                  go_wp2_with fail
                  go_ret
                  exact ⟨by first | rfl | simp, HX9.out.below⟩
              | false =>
                go_wp2_with fail
                go_ret
                exact ⟨by first | rfl | simp, HX9.out.below⟩
            | false =>
              go_wp2_with fail
              go_ret
              exact ⟨by first | rfl | simp, HX9.out.below⟩

set_option maxRecDepth 100000 in
/-- THE 4: what Below and Apart say is so of every value -/
theorem w_BelowTrue (h : Nat) (A B : TT) (va vb : Value) (hv : Nat) (V : VT) (vv : Value) (w : World) (hA : InT w h A va) (hB : InT w h B vb) (tA : tpN h A ≤ 1048576) (tB : tpN h B ≤ 1048576) (rA : rgT h A) (rB : rgT h B) (hV : InH w (hv + 1) V vv) :
    Calls Try.prog 4 #[va, vb, vv] w fun e w' => e = .returned (.bool true) ∧ Below w.heap.size w w' := by
  obtain ⟨sa, sb, sc, sd, ⟨seo, sen, sec⟩, sf, ⟨sgo, sgn, sgc⟩, ⟨sio, sinn, sic⟩, ⟨sjo, sjn, sjc⟩, rfl⟩ := inT_shape hA
  obtain ⟨ta, tb, tc, td, ⟨teo, ten, tec⟩, tf, ⟨tgo, tgn, tgc⟩, ⟨tio, tinn, tic⟩, ⟨tjo, tjn, tjc⟩, rfl⟩ := inT_shape hB
  have hV2 := hV
  obtain ⟨io, icap, ko, kcap, rfl, a1, a2, a3, a4, a5, a6, a7, hkk, hi⟩ := hV2.open
  have fmA : ∀ {x : Bool}, (x && fmN h A) = true → fmN h A = true := fun e => by rw [Bool.and_eq_true] at e; exact e.2
  have fmB : ∀ {x : Bool}, (x && fmN h B) = true → fmN h B = true := fun e => by rw [Bool.and_eq_true] at e; exact e.2
  refine true_step _ _ _ _ _ _ _ _ _ _ _ _ _ _ _ _ _ _ _ _ _ _ _ _ _ _ _ _ _ _ _ _ _ _ _ _ _ _ _ _ _ _ _ w _ _ (decide (szN (hv + 1) V ≤ 20000)) _ (inN h V A) (inN h V B) (bwN h A B) (!mtN h A B)
    (Hid.mk fun u => w_lives12 u)
    (Hid.mk fun u hu => w_formed12 h A _ u (hA.keep hu) tA)
    (Hid.mk fun u hu => w_formed12 h B _ u (hB.keep hu) tB)
    (Hid.mk fun u b hu hr => by
      have HF := w_Fit (hv + 1) (some ⟨b, 0, none⟩) 1 1 [V] u rfl (iin_one hr (hV.keep hu)) (Nat.le_refl _) (by decide)
      have hs : sumL ([V].map (szN (hv + 1))) = szN (hv + 1) V := by simp [sumL]
      rw [hs] at HF
      exact HF)
    (Hid.mk fun u hu => w_rFormed (hv + 1) V _ u (hV.keep hu))
    (Hid.mk fun e1 e2 u hu => w_rIn h (hv + 1) V A _ _ u (hV.keep hu) e2 (good_of (fmA e1) rA) (hA.keep hu))
    (Hid.mk fun e1 e2 u hu => w_rIn h (hv + 1) V B _ _ u (hV.keep hu) e2 (good_of (fmB e1) rB) (hB.keep hu))
    (Hid.mk fun e1 e2 u hu => w_Below h A B _ _ u (hA.keep hu) (hB.keep hu) (fmA e1) (fmB e2))
    (Hid.mk fun e1 e2 u hu => w_Apart h A B _ _ u (hA.keep hu) (hB.keep hu) (fmA e1) (fmB e2))
    (Hid.mk fun e1 e2 e3 => ⟨fun k1 k2 => bw_in h (hv + 1) V A B e3 (fmA e1) (fmB e2) k1 k2, fun k1 k2 k3 => by
      rw [mt_in h (hv + 1) V A B e3 (fmA e1) (fmB e2) k2 k3] at k1
      cases k1⟩)
end Go.Proofs.Ytihhjplbpaafiaa
