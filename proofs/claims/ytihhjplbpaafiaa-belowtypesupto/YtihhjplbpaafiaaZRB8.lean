import Derived.Test.YtihhjplbpaafiaaM46
namespace Go.Proofs.Ytihhjplbpaafiaa
open Go.RowKit Go.Shelf Go.Sort
set_option linter.unusedVariables false
set_option linter.unusedSimpArgs false
attribute [local go_sem] Oper.semAt_some

/-- a span that can be read -/
def okS (p : ByteArray × ByteArray) : Prop := (bdB p.1 = true ∧ bdB p.2 = true) ∧ p.1.size ≤ 140737488355328 ∧ p.2.size ≤ 140737488355328
theorem okS0 : okS (.empty, .empty) := ⟨⟨by decide +kernel, by decide +kernel⟩, by decide, by decide⟩
/-- a box -/
structure BxA (u : World) (B : Nat) (V : Array Value) : Prop where
  lt : B < u.heap.size
  one : ∀ j, u.cell? ⟨B, j, none⟩ = V[j]?
theorem BxA.keep {u u' : World} {B : Nat} {V : Array Value} (x : BxA u B V) (hb : Below u.heap.size u u') : BxA u' B V :=
  ⟨Nat.lt_of_lt_of_le x.lt hb.size, fun j => (hb.cell (p := ⟨_, _, _⟩) x.lt).trans (x.one j)⟩

set_option maxRecDepth 100000 in
set_option maxHeartbeats 3200000 in
theorem rb_never (sa sb sc sd : Bool) (seo : Option Addr) (sen sec : Nat) (sf : Bool) (sgo : Option Addr) (sgn sgc : Nat) (sio : Option Addr) (sinn sic : Nat) (sjo : Option Addr) (sjn sjc : Nat) (ta tb tc td : Bool) (teo : Option Addr) (ten tec : Nat) (tf : Bool) (tgo : Option Addr) (tgn tgc : Nat) (tio : Option Addr) (tinn tic : Nat) (tjo : Option Addr) (tjn tjc : Nat) (w : World) (HN : Hid (∀ u, Below w.heap.size w u → Calls Try.prog 14 #[.agg #[.bool sa, .bool sb, .bool sc, .bool sd, .slice seo sen sec, .bool sf, .slice sgo sgn sgc, .slice sio sinn sic, .slice sjo sjn sjc]] u fun e w' => e = .returned (.bool true) ∧ Below u.heap.size u w')) : Calls Try.prog 9 #[.agg #[.bool sa, .bool sb, .bool sc, .bool sd, .slice seo sen sec, .bool sf, .slice sgo sgn sgc, .slice sio sinn sic, .slice sjo sjn sjc], .agg #[.bool ta, .bool tb, .bool tc, .bool td, .slice teo ten tec, .bool tf, .slice tgo tgn tgc, .slice tio tinn tic, .slice tjo tjn tjc]] w fun e w' => e = .returned (.bool true) ∧ Below w.heap.size w w' := by
  have HX := Hid.mk (bx2_new w #[.bool sa, .bool sb, .bool sc, .bool sd, .slice seo sen sec, .bool sf, .slice sgo sgn sgc, .slice sio sinn sic, .slice sjo sjn sjc] #[.bool ta, .bool tb, .bool tc, .bool td, .slice teo ten tec, .bool tf, .slice tgo tgn tgc, .slice tio tinn tic, .slice tjo tjn tjc] 27)
  obtain ⟨W0, hW0⟩ : ∃ W0, (w.alloc (.cells #[.bool sa, .bool sb, .bool sc, .bool sd, .slice seo sen sec, .bool sf, .slice sgo sgn sgc, .slice sio sinn sic, .slice sjo sjn sjc] 27)).alloc (.cells #[.bool ta, .bool tb, .bool tc, .bool td, .slice teo ten tec, .bool tf, .slice tgo tgn tgc, .slice tio tinn tic, .slice tjo tjn tjc] 27) = W0 := ⟨_, rfl⟩
  rw [hW0] at HX
  have p0 : W0.cell? ⟨w.heap.size, 0, none⟩ = _ := HX.out.one 0
  have p1 : W0.cell? ⟨w.heap.size, 1, none⟩ = _ := HX.out.one 1
  have p2 : W0.cell? ⟨w.heap.size, 2, none⟩ = _ := HX.out.one 2
  have p3 : W0.cell? ⟨w.heap.size, 3, none⟩ = _ := HX.out.one 3
  have p4 : W0.cell? ⟨w.heap.size, 4, none⟩ = _ := HX.out.one 4
  have p5 : W0.cell? ⟨w.heap.size, 5, none⟩ = _ := HX.out.one 5
  have p6 : W0.cell? ⟨w.heap.size, 6, none⟩ = _ := HX.out.one 6
  have p7 : W0.cell? ⟨w.heap.size, 7, none⟩ = _ := HX.out.one 7
  have p8 : W0.cell? ⟨w.heap.size, 8, none⟩ = _ := HX.out.one 8
  go_enter Try.func9, Try.ntmps9
  go_wp2_with fail
  refine (HN.out _ HX.out.below).mono ?_
  rintro e w1 ⟨rfl, hq⟩
  have HX1 := Hid.mk (HX.out.keep hq)
  clear hq
  go_wp2_with fail
  go_ret
  exact ⟨rfl, HX1.out.below⟩
set_option maxRecDepth 100000 in
set_option maxHeartbeats 3200000 in
theorem rb_every (sa sb sc sd : Bool) (seo : Option Addr) (sen sec : Nat) (sf : Bool) (sgo : Option Addr) (sgn sgc : Nat) (sio : Option Addr) (sinn sic : Nat) (sjo : Option Addr) (sjn sjc : Nat) (ta tb tc td : Bool) (teo : Option Addr) (ten tec : Nat) (tf : Bool) (tgo : Option Addr) (tgn tgc : Nat) (tio : Option Addr) (tinn tic : Nat) (tjo : Option Addr) (tjn tjc : Nat) (w : World) (n : Bool) (HN : Hid (∀ u, Below w.heap.size w u → Calls Try.prog 14 #[.agg #[.bool sa, .bool sb, .bool sc, .bool sd, .slice seo sen sec, .bool sf, .slice sgo sgn sgc, .slice sio sinn sic, .slice sjo sjn sjc]] u fun e w' => e = .returned (.bool n) ∧ Below u.heap.size u w')) : Calls Try.prog 9 #[.agg #[.bool sa, .bool sb, .bool sc, .bool sd, .slice seo sen sec, .bool sf, .slice sgo sgn sgc, .slice sio sinn sic, .slice sjo sjn sjc], .agg #[.bool true, .bool tb, .bool tc, .bool td, .slice teo ten tec, .bool tf, .slice tgo tgn tgc, .slice tio tinn tic, .slice tjo tjn tjc]] w fun e w' => e = .returned (.bool true) ∧ Below w.heap.size w w' := by
  have HX := Hid.mk (bx2_new w #[.bool sa, .bool sb, .bool sc, .bool sd, .slice seo sen sec, .bool sf, .slice sgo sgn sgc, .slice sio sinn sic, .slice sjo sjn sjc] #[.bool true, .bool tb, .bool tc, .bool td, .slice teo ten tec, .bool tf, .slice tgo tgn tgc, .slice tio tinn tic, .slice tjo tjn tjc] 27)
  obtain ⟨W0, hW0⟩ : ∃ W0, (w.alloc (.cells #[.bool sa, .bool sb, .bool sc, .bool sd, .slice seo sen sec, .bool sf, .slice sgo sgn sgc, .slice sio sinn sic, .slice sjo sjn sjc] 27)).alloc (.cells #[.bool true, .bool tb, .bool tc, .bool td, .slice teo ten tec, .bool tf, .slice tgo tgn tgc, .slice tio tinn tic, .slice tjo tjn tjc] 27) = W0 := ⟨_, rfl⟩
  rw [hW0] at HX
  have p0 : W0.cell? ⟨w.heap.size, 0, none⟩ = _ := HX.out.one 0
  have p1 : W0.cell? ⟨w.heap.size, 1, none⟩ = _ := HX.out.one 1
  have p2 : W0.cell? ⟨w.heap.size, 2, none⟩ = _ := HX.out.one 2
  have p3 : W0.cell? ⟨w.heap.size, 3, none⟩ = _ := HX.out.one 3
  have p4 : W0.cell? ⟨w.heap.size, 4, none⟩ = _ := HX.out.one 4
  have p5 : W0.cell? ⟨w.heap.size, 5, none⟩ = _ := HX.out.one 5
  have p6 : W0.cell? ⟨w.heap.size, 6, none⟩ = _ := HX.out.one 6
  have p7 : W0.cell? ⟨w.heap.size, 7, none⟩ = _ := HX.out.one 7
  have p8 : W0.cell? ⟨w.heap.size, 8, none⟩ = _ := HX.out.one 8
  go_enter Try.func9, Try.ntmps9
  cases n with
  | true =>
    go_wp2_with fail
    refine (HN.out _ HX.out.below).mono ?_
    rintro e w1 ⟨rfl, hq⟩
    have HX1 := Hid.mk (HX.out.keep hq)
    clear hq
    go_wp2_with fail
    go_ret
    exact ⟨rfl, HX1.out.below⟩
  | false =>
    go_wp2_with fail
    refine (HN.out _ HX.out.below).mono ?_
    rintro e w1 ⟨rfl, hq⟩
    have HX1 := Hid.mk (HX.out.keep hq)
    have q0 : w1.cell? ⟨w.heap.size + 1, 0, none⟩ = _ := HX1.out.two 0
    clear hq
    go_wp2_with fail
    go_ret
    exact ⟨rfl, HX1.out.below⟩

set_option maxRecDepth 100000 in
set_option maxHeartbeats 51200000 in
theorem rb_main (sa sb sc sd : Bool) (seo : Option Addr) (sen sec : Nat) (sf : Bool) (sgo : Option Addr) (sgn sgc : Nat) (sio : Option Addr) (sinn sic : Nat) (sjo : Option Addr) (sjn sjc : Nat) (tb tc td : Bool) (teo : Option Addr) (ten tec : Nat) (tf : Bool) (tgo : Option Addr) (tgn tgc : Nat) (tio : Option Addr) (tinn tic : Nat) (tjo : Option Addr) (tjn tjc : Nat) (w : World) (PX : World → Value → Prop) (xn xf xt tx ar ob : Bool) (PN : Nat) (ps qs : List (ByteArray × ByteArray))
    (HN : Hid (∀ u, Below w.heap.size w u → Calls Try.prog 14 #[.agg #[.bool sa, .bool sb, .bool sc, .bool sd, .slice seo sen sec, .bool sf, .slice sgo sgn sgc, .slice sio sinn sic, .slice sjo sjn sjc]] u fun e w' => e = .returned (.bool false) ∧ Below u.heap.size u w'))
    (HL : Hid (∀ u, Below w.heap.size w u → Calls Try.prog 19 #[.agg #[.bool sa, .bool sb, .bool sc, .bool sd, .slice seo sen sec, .bool sf, .slice sgo sgn sgc, .slice sio sinn sic, .slice sjo sjn sjc]] u fun e w' => (∃ (ka : Bool) (keo : Option Addr) (kec : Nat) (kf : Bool) (kgo : Option Addr) (kgn : Nat) (kgc : Nat) (kio : Option Addr) (kinn : Nat) (kic : Nat) (kjo : Option Addr) (kjn : Nat) (kjc : Nat), e = .returned (.agg #[.bool ka, .bool xn, .bool xf, .bool xt, .slice keo PN kec, .bool kf, .slice kgo kgn kgc, .slice kio kinn kic, .slice kjo kjn kjc]) ∧ PX w' (.agg #[.bool ka, .bool xn, .bool xf, .bool xt, .slice keo PN kec, .bool kf, .slice kgo kgn kgc, .slice kio kinn kic, .slice kjo kjn kjc]) ∧ SpIn w' keo ps ∧ PN ≤ kec) ∧ Below u.heap.size u w'))
    (PXk : Hid (∀ u u' v, PX u v → Below u.heap.size u u' → PX u' v))
    (HTx : Hid (∀ u v, PX u v → Below w.heap.size w u → Calls Try.prog 21 #[v, .agg #[.bool false, .bool tb, .bool tc, .bool td, .slice teo ten tec, .bool tf, .slice tgo tgn tgc, .slice tio tinn tic, .slice tjo tjn tjc]] u fun e w' => e = .returned (.bool tx) ∧ Below u.heap.size u w'))
    (HAr : Hid (∀ u v, PX u v → Below w.heap.size w u → Calls Try.prog 22 #[v, .agg #[.bool false, .bool tb, .bool tc, .bool td, .slice teo ten tec, .bool tf, .slice tgo tgn tgc, .slice tio tinn tic, .slice tjo tjn tjc]] u fun e w' => e = .returned (.bool ar) ∧ Below u.heap.size u w'))
    (HOb : Hid (∀ u v, PX u v → Below w.heap.size w u → Calls Try.prog 23 #[v, .agg #[.bool false, .bool tb, .bool tc, .bool td, .slice teo ten tec, .bool tf, .slice tgo tgn tgc, .slice tio tinn tic, .slice tjo tjn tjc]] u fun e w' => e = .returned (.bool ob) ∧ Below u.heap.size u w'))
    (HPS : Hid ((ps = [] ∧ PN = 0) ∨ ∃ p, ps = [p] ∧ PN = 1)) (HQS : Hid ((qs = [] ∧ ten = 0) ∨ ∃ q, qs = [q] ∧ ten = 1)) (hq0 : SpIn w teo qs) (cten : ten ≤ tec)
    (HOp : Hid (∀ p ∈ ps, okS p)) (HOq : Hid (∀ q ∈ qs, okS q)) (HSp : Hid (∀ (p q : ByteArray × ByteArray), okS p → okS q → ∀ (u : World), Calls Try.prog 20 #[.agg #[.string p.1, .string p.2], .agg #[.string q.1, .string q.2]] u fun e w' => e = .returned (.bool (inS p.1 p.2 q.1 q.2)) ∧ Below u.heap.size u w')) :
    Calls Try.prog 9 #[.agg #[.bool sa, .bool sb, .bool sc, .bool sd, .slice seo sen sec, .bool sf, .slice sgo sgn sgc, .slice sio sinn sic, .slice sjo sjn sjc], .agg #[.bool false, .bool tb, .bool tc, .bool td, .slice teo ten tec, .bool tf, .slice tgo tgn tgc, .slice tio tinn tic, .slice tjo tjn tjc]] w fun e w' => e = .returned (.bool (((!xn || tb) && ((!xf || tc) && (!xt || td))) && (spL ps qs && (tx && (ar && ob))))) ∧ Below w.heap.size w w' := by
  have HX := Hid.mk (bx2_new w #[.bool sa, .bool sb, .bool sc, .bool sd, .slice seo sen sec, .bool sf, .slice sgo sgn sgc, .slice sio sinn sic, .slice sjo sjn sjc] #[.bool false, .bool tb, .bool tc, .bool td, .slice teo ten tec, .bool tf, .slice tgo tgn tgc, .slice tio tinn tic, .slice tjo tjn tjc] 27)
  obtain ⟨W0, hW0⟩ : ∃ W0, (w.alloc (.cells #[.bool sa, .bool sb, .bool sc, .bool sd, .slice seo sen sec, .bool sf, .slice sgo sgn sgc, .slice sio sinn sic, .slice sjo sjn sjc] 27)).alloc (.cells #[.bool false, .bool tb, .bool tc, .bool td, .slice teo ten tec, .bool tf, .slice tgo tgn tgc, .slice tio tinn tic, .slice tjo tjn tjc] 27) = W0 := ⟨_, rfl⟩
  rw [hW0] at HX
  have p0 : W0.cell? ⟨w.heap.size, 0, none⟩ = _ := HX.out.one 0
  have p1 : W0.cell? ⟨w.heap.size, 1, none⟩ = _ := HX.out.one 1
  have p2 : W0.cell? ⟨w.heap.size, 2, none⟩ = _ := HX.out.one 2
  have p3 : W0.cell? ⟨w.heap.size, 3, none⟩ = _ := HX.out.one 3
  have p4 : W0.cell? ⟨w.heap.size, 4, none⟩ = _ := HX.out.one 4
  have p5 : W0.cell? ⟨w.heap.size, 5, none⟩ = _ := HX.out.one 5
  have p6 : W0.cell? ⟨w.heap.size, 6, none⟩ = _ := HX.out.one 6
  have p7 : W0.cell? ⟨w.heap.size, 7, none⟩ = _ := HX.out.one 7
  have p8 : W0.cell? ⟨w.heap.size, 8, none⟩ = _ := HX.out.one 8
  go_enter Try.func9, Try.ntmps9
  go_wp2_with fail
  refine (HN.out _ HX.out.below).mono ?_
  rintro e w0 ⟨rfl, hq⟩
  have HX0 := Hid.mk (HX.out.keep hq)
  clear hq hW0 HX p0 p1 p2 p3 p4 p5 p6 p7 p8
  have p0 : w0.cell? ⟨w.heap.size, 0, none⟩ = _ := HX0.out.one 0
  have p1 : w0.cell? ⟨w.heap.size, 1, none⟩ = _ := HX0.out.one 1
  have p2 : w0.cell? ⟨w.heap.size, 2, none⟩ = _ := HX0.out.one 2
  have p3 : w0.cell? ⟨w.heap.size, 3, none⟩ = _ := HX0.out.one 3
  have p4 : w0.cell? ⟨w.heap.size, 4, none⟩ = _ := HX0.out.one 4
  have p5 : w0.cell? ⟨w.heap.size, 5, none⟩ = _ := HX0.out.one 5
  have p6 : w0.cell? ⟨w.heap.size, 6, none⟩ = _ := HX0.out.one 6
  have p7 : w0.cell? ⟨w.heap.size, 7, none⟩ = _ := HX0.out.one 7
  have p8 : w0.cell? ⟨w.heap.size, 8, none⟩ = _ := HX0.out.one 8
  have q0 : w0.cell? ⟨w.heap.size + 1, 0, none⟩ = _ := HX0.out.two 0
  go_wp2_with fail
  refine (HL.out _ HX0.out.below).mono ?_
  rintro e w1 ⟨⟨ka, keo, kec, kf, kgo, kgn, kgc, kio, kinn, kic, kjo, kjn, kjc, rfl, hPX, hSX, ckec⟩, hq⟩
  have HX1 := Hid.mk (HX0.out.keep hq)
  obtain ⟨SB, hSB⟩ : ∃ SB, w1.heap.size = SB := ⟨_, rfl⟩
  obtain ⟨W2, hW2⟩ : ∃ W2, w1.alloc (.cells #[.bool ka, .bool xn, .bool xf, .bool xt, .slice keo PN kec, .bool kf, .slice kgo kgn kgc, .slice kio kinn kic, .slice kjo kjn kjc] 27) = W2 := ⟨_, rfl⟩
  have hb2 : Below w1.heap.size w1 W2 := by rw [← hW2]; exact below1 w1 _
  have HX2 := Hid.mk (HX1.out.keep hb2)
  have HA2 : Hid (BxA W2 SB #[.bool ka, .bool xn, .bool xf, .bool xt, .slice keo PN kec, .bool kf, .slice kgo kgn kgc, .slice kio kinn kic, .slice kjo kjn kjc]) := ⟨by rw [← hW2, ← hSB]; simp, fun j => by rw [← hW2, ← hSB]; exact cell_of_row _ _ j _ _ (0, 0) (World.alloc_heap_new w1 _)⟩
  have HP2 := Hid.mk (PXk.out _ _ _ hPX hb2)
  have HSX := Hid.mk (hSX.keep hb2)
  have HSY := Hid.mk (hq0.keep HX2.out.below)
  have HWq := Hid.mk hW2
  have HSq := Hid.mk hSB
  clear hq hb2 hPX hSX hW2 hSB hq0 p0 p1 p2 p3 p4 p5 p6 p7 p8 q0
  go_upto_region 4 with fail
  try rw [HWq.out]
  try rw [HSq.out]
  clear HWq HSq HX0 HX1
  have q0 : W2.cell? ⟨w.heap.size + 1, 0, none⟩ = _ := HX2.out.two 0
  have q1 : W2.cell? ⟨w.heap.size + 1, 1, none⟩ = _ := HX2.out.two 1
  have q2 : W2.cell? ⟨w.heap.size + 1, 2, none⟩ = _ := HX2.out.two 2
  have q3 : W2.cell? ⟨w.heap.size + 1, 3, none⟩ = _ := HX2.out.two 3
  have q4 : W2.cell? ⟨w.heap.size + 1, 4, none⟩ = _ := HX2.out.two 4
  have q5 : W2.cell? ⟨w.heap.size + 1, 5, none⟩ = _ := HX2.out.two 5
  have q6 : W2.cell? ⟨w.heap.size + 1, 6, none⟩ = _ := HX2.out.two 6
  have q7 : W2.cell? ⟨w.heap.size + 1, 7, none⟩ = _ := HX2.out.two 7
  have q8 : W2.cell? ⟨w.heap.size + 1, 8, none⟩ = _ := HX2.out.two 8
  have x0 : W2.cell? ⟨SB, 0, none⟩ = _ := HA2.out.one 0
  have x1 : W2.cell? ⟨SB, 1, none⟩ = _ := HA2.out.one 1
  have x2 : W2.cell? ⟨SB, 2, none⟩ = _ := HA2.out.one 2
  have x3 : W2.cell? ⟨SB, 3, none⟩ = _ := HA2.out.one 3
  have x4 : W2.cell? ⟨SB, 4, none⟩ = _ := HA2.out.one 4
  have x5 : W2.cell? ⟨SB, 5, none⟩ = _ := HA2.out.one 5
  have x6 : W2.cell? ⟨SB, 6, none⟩ = _ := HA2.out.one 6
  have x7 : W2.cell? ⟨SB, 7, none⟩ = _ := HA2.out.one 7
  have x8 : W2.cell? ⟨SB, 8, none⟩ = _ := HA2.out.one 8
  cases xn with
  | false =>
    cases xf with
    | false =>
      cases xt with
      | false =>
        have AQ0 := fun d os => cell_regrown q0 d os
        have AX0 := fun d os => cell_regrown x0 d os
        have AQ1 := fun d os => cell_regrown q1 d os
        have AX1 := fun d os => cell_regrown x1 d os
        have AQ2 := fun d os => cell_regrown q2 d os
        have AX2 := fun d os => cell_regrown x2 d os
        have AQ3 := fun d os => cell_regrown q3 d os
        have AX3 := fun d os => cell_regrown x3 d os
        have AQ4 := fun d os => cell_regrown q4 d os
        have AX4 := fun d os => cell_regrown x4 d os
        have AQ5 := fun d os => cell_regrown q5 d os
        have AX5 := fun d os => cell_regrown x5 d os
        have AQ6 := fun d os => cell_regrown q6 d os
        have AX6 := fun d os => cell_regrown x6 d os
        have AQ7 := fun d os => cell_regrown q7 d os
        have AX7 := fun d os => cell_regrown x7 d os
        have AQ8 := fun d os => cell_regrown q8 d os
        have AX8 := fun d os => cell_regrown x8 d os
        rcases HPS.out with ⟨rfl, rfl⟩ | ⟨p, rfl, rfl⟩
        · have HC := Hid.mk (fun (d : Nat) (os : Array Obj) => HSp.out (.empty, .empty) (.empty, .empty) okS0 okS0 (grow (redrawn W2 d) os))
          go_wp2_with fail
          refine wp_region_quiet_below (by kernel_rfl) (by kernel_rfl) ?_
          repeat (go_big_quiet_step (exact Calls.regrown_of (HC.out _ _)))
          refine wpQuiet_nil ?_
          intro w3 hw'
          have hb9 : Below W2.heap.size W2 w3 := by
            obtain ⟨⟨dq, osq⟩, rfl⟩ := hw'
            exact below_regrown W2 dq osq
          have HX3 := Hid.mk (HX2.out.keep hb9)
          have HA3 := Hid.mk (HA2.out.keep hb9)
          have HP3 := Hid.mk (PXk.out _ _ _ HP2.out hb9)
          clear hw' hb9 AQ0 AX0 AQ1 AX1 AQ2 AX2 AQ3 AX3 AQ4 AX4 AQ5 AX5 AQ6 AX6 AQ7 AX7 AQ8 AX8
          clear q0 x0 q1 x1 q2 x2 q3 x3 q4 x4 q5 x5 q6 x6 q7 x7 q8 x8
          have q0 : w3.cell? ⟨w.heap.size + 1, 0, none⟩ = _ := HX3.out.two 0
          have q1 : w3.cell? ⟨w.heap.size + 1, 1, none⟩ = _ := HX3.out.two 1
          have q2 : w3.cell? ⟨w.heap.size + 1, 2, none⟩ = _ := HX3.out.two 2
          have q3 : w3.cell? ⟨w.heap.size + 1, 3, none⟩ = _ := HX3.out.two 3
          have q4 : w3.cell? ⟨w.heap.size + 1, 4, none⟩ = _ := HX3.out.two 4
          have q5 : w3.cell? ⟨w.heap.size + 1, 5, none⟩ = _ := HX3.out.two 5
          have q6 : w3.cell? ⟨w.heap.size + 1, 6, none⟩ = _ := HX3.out.two 6
          have q7 : w3.cell? ⟨w.heap.size + 1, 7, none⟩ = _ := HX3.out.two 7
          have q8 : w3.cell? ⟨w.heap.size + 1, 8, none⟩ = _ := HX3.out.two 8
          have x0 : w3.cell? ⟨SB, 0, none⟩ = _ := HA3.out.one 0
          have x1 : w3.cell? ⟨SB, 1, none⟩ = _ := HA3.out.one 1
          have x2 : w3.cell? ⟨SB, 2, none⟩ = _ := HA3.out.one 2
          have x3 : w3.cell? ⟨SB, 3, none⟩ = _ := HA3.out.one 3
          have x4 : w3.cell? ⟨SB, 4, none⟩ = _ := HA3.out.one 4
          have x5 : w3.cell? ⟨SB, 5, none⟩ = _ := HA3.out.one 5
          have x6 : w3.cell? ⟨SB, 6, none⟩ = _ := HA3.out.one 6
          have x7 : w3.cell? ⟨SB, 7, none⟩ = _ := HA3.out.one 7
          have x8 : w3.cell? ⟨SB, 8, none⟩ = _ := HA3.out.one 8
          go_wp2_with fail
          refine (HTx.out _ _ HP3.out HX3.out.below).mono ?_
          rintro e w4 ⟨rfl, hq⟩
          have HX4 := Hid.mk (HX3.out.keep hq)
          have HA4 := Hid.mk (HA3.out.keep hq)
          have HP4 := Hid.mk (PXk.out _ _ _ HP3.out hq)
          clear hq
          clear q0 x0 q1 x1 q2 x2 q3 x3 q4 x4 q5 x5 q6 x6 q7 x7 q8 x8
          have q0 : w4.cell? ⟨w.heap.size + 1, 0, none⟩ = _ := HX4.out.two 0
          have q1 : w4.cell? ⟨w.heap.size + 1, 1, none⟩ = _ := HX4.out.two 1
          have q2 : w4.cell? ⟨w.heap.size + 1, 2, none⟩ = _ := HX4.out.two 2
          have q3 : w4.cell? ⟨w.heap.size + 1, 3, none⟩ = _ := HX4.out.two 3
          have q4 : w4.cell? ⟨w.heap.size + 1, 4, none⟩ = _ := HX4.out.two 4
          have q5 : w4.cell? ⟨w.heap.size + 1, 5, none⟩ = _ := HX4.out.two 5
          have q6 : w4.cell? ⟨w.heap.size + 1, 6, none⟩ = _ := HX4.out.two 6
          have q7 : w4.cell? ⟨w.heap.size + 1, 7, none⟩ = _ := HX4.out.two 7
          have q8 : w4.cell? ⟨w.heap.size + 1, 8, none⟩ = _ := HX4.out.two 8
          have x0 : w4.cell? ⟨SB, 0, none⟩ = _ := HA4.out.one 0
          have x1 : w4.cell? ⟨SB, 1, none⟩ = _ := HA4.out.one 1
          have x2 : w4.cell? ⟨SB, 2, none⟩ = _ := HA4.out.one 2
          have x3 : w4.cell? ⟨SB, 3, none⟩ = _ := HA4.out.one 3
          have x4 : w4.cell? ⟨SB, 4, none⟩ = _ := HA4.out.one 4
          have x5 : w4.cell? ⟨SB, 5, none⟩ = _ := HA4.out.one 5
          have x6 : w4.cell? ⟨SB, 6, none⟩ = _ := HA4.out.one 6
          have x7 : w4.cell? ⟨SB, 7, none⟩ = _ := HA4.out.one 7
          have x8 : w4.cell? ⟨SB, 8, none⟩ = _ := HA4.out.one 8
          cases tx with
          | false =>
            go_wp2_with fail
            go_ret
            exact ⟨by first | rfl | simp, HX4.out.below⟩
          | true =>
            go_wp2_with fail
            refine (HAr.out _ _ HP4.out HX4.out.below).mono ?_
            rintro e w5 ⟨rfl, hq⟩
            have HX5 := Hid.mk (HX4.out.keep hq)
            have HA5 := Hid.mk (HA4.out.keep hq)
            have HP5 := Hid.mk (PXk.out _ _ _ HP4.out hq)
            clear hq
            clear q0 x0 q1 x1 q2 x2 q3 x3 q4 x4 q5 x5 q6 x6 q7 x7 q8 x8
            have q0 : w5.cell? ⟨w.heap.size + 1, 0, none⟩ = _ := HX5.out.two 0
            have q1 : w5.cell? ⟨w.heap.size + 1, 1, none⟩ = _ := HX5.out.two 1
            have q2 : w5.cell? ⟨w.heap.size + 1, 2, none⟩ = _ := HX5.out.two 2
            have q3 : w5.cell? ⟨w.heap.size + 1, 3, none⟩ = _ := HX5.out.two 3
            have q4 : w5.cell? ⟨w.heap.size + 1, 4, none⟩ = _ := HX5.out.two 4
            have q5 : w5.cell? ⟨w.heap.size + 1, 5, none⟩ = _ := HX5.out.two 5
            have q6 : w5.cell? ⟨w.heap.size + 1, 6, none⟩ = _ := HX5.out.two 6
            have q7 : w5.cell? ⟨w.heap.size + 1, 7, none⟩ = _ := HX5.out.two 7
            have q8 : w5.cell? ⟨w.heap.size + 1, 8, none⟩ = _ := HX5.out.two 8
            have x0 : w5.cell? ⟨SB, 0, none⟩ = _ := HA5.out.one 0
            have x1 : w5.cell? ⟨SB, 1, none⟩ = _ := HA5.out.one 1
            have x2 : w5.cell? ⟨SB, 2, none⟩ = _ := HA5.out.one 2
            have x3 : w5.cell? ⟨SB, 3, none⟩ = _ := HA5.out.one 3
            have x4 : w5.cell? ⟨SB, 4, none⟩ = _ := HA5.out.one 4
            have x5 : w5.cell? ⟨SB, 5, none⟩ = _ := HA5.out.one 5
            have x6 : w5.cell? ⟨SB, 6, none⟩ = _ := HA5.out.one 6
            have x7 : w5.cell? ⟨SB, 7, none⟩ = _ := HA5.out.one 7
            have x8 : w5.cell? ⟨SB, 8, none⟩ = _ := HA5.out.one 8
            cases ar with
            | false =>
              go_wp2_with fail
              go_ret
              exact ⟨by first | rfl | simp, HX5.out.below⟩
            | true =>
              go_wp2_with fail
              refine (HOb.out _ _ HP5.out HX5.out.below).mono ?_
              rintro e w6 ⟨rfl, hq⟩
              have HX6 := Hid.mk (HX5.out.keep hq)
              have HA6 := Hid.mk (HA5.out.keep hq)
              have HP6 := Hid.mk (PXk.out _ _ _ HP5.out hq)
              clear hq
              clear q0 x0 q1 x1 q2 x2 q3 x3 q4 x4 q5 x5 q6 x6 q7 x7 q8 x8
              have q0 : w6.cell? ⟨w.heap.size + 1, 0, none⟩ = _ := HX6.out.two 0
              have q1 : w6.cell? ⟨w.heap.size + 1, 1, none⟩ = _ := HX6.out.two 1
              have q2 : w6.cell? ⟨w.heap.size + 1, 2, none⟩ = _ := HX6.out.two 2
              have q3 : w6.cell? ⟨w.heap.size + 1, 3, none⟩ = _ := HX6.out.two 3
              have q4 : w6.cell? ⟨w.heap.size + 1, 4, none⟩ = _ := HX6.out.two 4
              have q5 : w6.cell? ⟨w.heap.size + 1, 5, none⟩ = _ := HX6.out.two 5
              have q6 : w6.cell? ⟨w.heap.size + 1, 6, none⟩ = _ := HX6.out.two 6
              have q7 : w6.cell? ⟨w.heap.size + 1, 7, none⟩ = _ := HX6.out.two 7
              have q8 : w6.cell? ⟨w.heap.size + 1, 8, none⟩ = _ := HX6.out.two 8
              have x0 : w6.cell? ⟨SB, 0, none⟩ = _ := HA6.out.one 0
              have x1 : w6.cell? ⟨SB, 1, none⟩ = _ := HA6.out.one 1
              have x2 : w6.cell? ⟨SB, 2, none⟩ = _ := HA6.out.one 2
              have x3 : w6.cell? ⟨SB, 3, none⟩ = _ := HA6.out.one 3
              have x4 : w6.cell? ⟨SB, 4, none⟩ = _ := HA6.out.one 4
              have x5 : w6.cell? ⟨SB, 5, none⟩ = _ := HA6.out.one 5
              have x6 : w6.cell? ⟨SB, 6, none⟩ = _ := HA6.out.one 6
              have x7 : w6.cell? ⟨SB, 7, none⟩ = _ := HA6.out.one 7
              have x8 : w6.cell? ⟨SB, 8, none⟩ = _ := HA6.out.one 8
              go_wp2_with fail
              go_ret
              exact ⟨by first | rfl | simp, HX6.out.below⟩
        · rcases HQS.out with ⟨rfl, rfl⟩ | ⟨q, rfl, rfl⟩
          · have HC := Hid.mk (fun (d : Nat) (os : Array Obj) => HSp.out (.empty, .empty) (.empty, .empty) okS0 okS0 (grow (redrawn W2 d) os))
            go_wp2_with fail
            refine wp_region_quiet_below (by kernel_rfl) (by kernel_rfl) ?_
            repeat (go_big_quiet_step (exact Calls.regrown_of (HC.out _ _)))
            refine wpQuiet_nil ?_
            intro w3 hw'
            have hb9 : Below W2.heap.size W2 w3 := by
              obtain ⟨⟨dq, osq⟩, rfl⟩ := hw'
              exact below_regrown W2 dq osq
            have HX3 := Hid.mk (HX2.out.keep hb9)
            have HA3 := Hid.mk (HA2.out.keep hb9)
            have HP3 := Hid.mk (PXk.out _ _ _ HP2.out hb9)
            clear hw' hb9 AQ0 AX0 AQ1 AX1 AQ2 AX2 AQ3 AX3 AQ4 AX4 AQ5 AX5 AQ6 AX6 AQ7 AX7 AQ8 AX8
            clear q0 x0 q1 x1 q2 x2 q3 x3 q4 x4 q5 x5 q6 x6 q7 x7 q8 x8
            have q0 : w3.cell? ⟨w.heap.size + 1, 0, none⟩ = _ := HX3.out.two 0
            have q1 : w3.cell? ⟨w.heap.size + 1, 1, none⟩ = _ := HX3.out.two 1
            have q2 : w3.cell? ⟨w.heap.size + 1, 2, none⟩ = _ := HX3.out.two 2
            have q3 : w3.cell? ⟨w.heap.size + 1, 3, none⟩ = _ := HX3.out.two 3
            have q4 : w3.cell? ⟨w.heap.size + 1, 4, none⟩ = _ := HX3.out.two 4
            have q5 : w3.cell? ⟨w.heap.size + 1, 5, none⟩ = _ := HX3.out.two 5
            have q6 : w3.cell? ⟨w.heap.size + 1, 6, none⟩ = _ := HX3.out.two 6
            have q7 : w3.cell? ⟨w.heap.size + 1, 7, none⟩ = _ := HX3.out.two 7
            have q8 : w3.cell? ⟨w.heap.size + 1, 8, none⟩ = _ := HX3.out.two 8
            have x0 : w3.cell? ⟨SB, 0, none⟩ = _ := HA3.out.one 0
            have x1 : w3.cell? ⟨SB, 1, none⟩ = _ := HA3.out.one 1
            have x2 : w3.cell? ⟨SB, 2, none⟩ = _ := HA3.out.one 2
            have x3 : w3.cell? ⟨SB, 3, none⟩ = _ := HA3.out.one 3
            have x4 : w3.cell? ⟨SB, 4, none⟩ = _ := HA3.out.one 4
            have x5 : w3.cell? ⟨SB, 5, none⟩ = _ := HA3.out.one 5
            have x6 : w3.cell? ⟨SB, 6, none⟩ = _ := HA3.out.one 6
            have x7 : w3.cell? ⟨SB, 7, none⟩ = _ := HA3.out.one 7
            have x8 : w3.cell? ⟨SB, 8, none⟩ = _ := HA3.out.one 8
            go_wp2_with fail
            go_ret
            exact ⟨by first | rfl | simp, HX3.out.below⟩
          · obtain ⟨xb, xoff, hxo, lxb, hxr⟩ := HSX.out.row (by simp)
            obtain ⟨yb, yoff, hyo, lyb, hyr⟩ := HSY.out.row (by simp)
            subst hxo hyo
            have k1 := hxr 0 (by simp)
            have k2 := hyr 0 (by simp)
            simp only [List.getElem_cons_zero, Nat.zero_mul, Nat.add_zero] at k1 k2
            obtain ⟨m1, m2⟩ := k1
            obtain ⟨m3, m4⟩ := k2
            have M1 := fun d os => cell_regrown m1 d os
            have M2 := fun d os => cell_regrown m2 d os
            have M3 := fun d os => cell_regrown m3 d os
            have M4 := fun d os => cell_regrown m4 d os
            have HC := Hid.mk (fun (d : Nat) (os : Array Obj) => HSp.out p q (HOp.out p (List.mem_singleton.2 rfl)) (HOq.out q (List.mem_singleton.2 rfl)) (grow (redrawn W2 d) os))
            obtain ⟨sr, hsr⟩ : ∃ sr, inS p.1 p.2 q.1 q.2 = sr := ⟨_, rfl⟩
            have hsl : spL [p] [q] = sr := hsr
            have HSL := Hid.mk hsl
            rw [hsr] at HC
            clear hxr hyr hsr hsl
            cases sr with
            | false =>
              go_wp2_with fail
              refine wp_region_quiet_below (by kernel_rfl) (by kernel_rfl) ?_
              repeat (go_big_quiet_step (exact Calls.regrown_of (HC.out _ _)))
              refine wpQuiet_nil ?_
              intro w3 hw'
              have hb9 : Below W2.heap.size W2 w3 := by
                obtain ⟨⟨dq, osq⟩, rfl⟩ := hw'
                exact below_regrown W2 dq osq
              have HX3 := Hid.mk (HX2.out.keep hb9)
              have HA3 := Hid.mk (HA2.out.keep hb9)
              have HP3 := Hid.mk (PXk.out _ _ _ HP2.out hb9)
              clear hw' hb9 AQ0 AX0 AQ1 AX1 AQ2 AX2 AQ3 AX3 AQ4 AX4 AQ5 AX5 AQ6 AX6 AQ7 AX7 AQ8 AX8 M1 M2 M3 M4 m1 m2 m3 m4
              clear q0 x0 q1 x1 q2 x2 q3 x3 q4 x4 q5 x5 q6 x6 q7 x7 q8 x8
              have q0 : w3.cell? ⟨w.heap.size + 1, 0, none⟩ = _ := HX3.out.two 0
              have q1 : w3.cell? ⟨w.heap.size + 1, 1, none⟩ = _ := HX3.out.two 1
              have q2 : w3.cell? ⟨w.heap.size + 1, 2, none⟩ = _ := HX3.out.two 2
              have q3 : w3.cell? ⟨w.heap.size + 1, 3, none⟩ = _ := HX3.out.two 3
              have q4 : w3.cell? ⟨w.heap.size + 1, 4, none⟩ = _ := HX3.out.two 4
              have q5 : w3.cell? ⟨w.heap.size + 1, 5, none⟩ = _ := HX3.out.two 5
              have q6 : w3.cell? ⟨w.heap.size + 1, 6, none⟩ = _ := HX3.out.two 6
              have q7 : w3.cell? ⟨w.heap.size + 1, 7, none⟩ = _ := HX3.out.two 7
              have q8 : w3.cell? ⟨w.heap.size + 1, 8, none⟩ = _ := HX3.out.two 8
              have x0 : w3.cell? ⟨SB, 0, none⟩ = _ := HA3.out.one 0
              have x1 : w3.cell? ⟨SB, 1, none⟩ = _ := HA3.out.one 1
              have x2 : w3.cell? ⟨SB, 2, none⟩ = _ := HA3.out.one 2
              have x3 : w3.cell? ⟨SB, 3, none⟩ = _ := HA3.out.one 3
              have x4 : w3.cell? ⟨SB, 4, none⟩ = _ := HA3.out.one 4
              have x5 : w3.cell? ⟨SB, 5, none⟩ = _ := HA3.out.one 5
              have x6 : w3.cell? ⟨SB, 6, none⟩ = _ := HA3.out.one 6
              have x7 : w3.cell? ⟨SB, 7, none⟩ = _ := HA3.out.one 7
              have x8 : w3.cell? ⟨SB, 8, none⟩ = _ := HA3.out.one 8
              go_wp2_with fail
              go_ret
              exact ⟨by first | rfl | (simp [HSL.out]; done) | simp, HX3.out.below⟩
            | true =>
              go_wp2_with fail
              refine wp_region_quiet_below (by kernel_rfl) (by kernel_rfl) ?_
              repeat (go_big_quiet_step (exact Calls.regrown_of (HC.out _ _)))
              refine wpQuiet_nil ?_
              intro w3 hw'
              have hb9 : Below W2.heap.size W2 w3 := by
                obtain ⟨⟨dq, osq⟩, rfl⟩ := hw'
                exact below_regrown W2 dq osq
              have HX3 := Hid.mk (HX2.out.keep hb9)
              have HA3 := Hid.mk (HA2.out.keep hb9)
              have HP3 := Hid.mk (PXk.out _ _ _ HP2.out hb9)
              clear hw' hb9 AQ0 AX0 AQ1 AX1 AQ2 AX2 AQ3 AX3 AQ4 AX4 AQ5 AX5 AQ6 AX6 AQ7 AX7 AQ8 AX8 M1 M2 M3 M4 m1 m2 m3 m4
              clear q0 x0 q1 x1 q2 x2 q3 x3 q4 x4 q5 x5 q6 x6 q7 x7 q8 x8
              have q0 : w3.cell? ⟨w.heap.size + 1, 0, none⟩ = _ := HX3.out.two 0
              have q1 : w3.cell? ⟨w.heap.size + 1, 1, none⟩ = _ := HX3.out.two 1
              have q2 : w3.cell? ⟨w.heap.size + 1, 2, none⟩ = _ := HX3.out.two 2
              have q3 : w3.cell? ⟨w.heap.size + 1, 3, none⟩ = _ := HX3.out.two 3
              have q4 : w3.cell? ⟨w.heap.size + 1, 4, none⟩ = _ := HX3.out.two 4
              have q5 : w3.cell? ⟨w.heap.size + 1, 5, none⟩ = _ := HX3.out.two 5
              have q6 : w3.cell? ⟨w.heap.size + 1, 6, none⟩ = _ := HX3.out.two 6
              have q7 : w3.cell? ⟨w.heap.size + 1, 7, none⟩ = _ := HX3.out.two 7
              have q8 : w3.cell? ⟨w.heap.size + 1, 8, none⟩ = _ := HX3.out.two 8
              have x0 : w3.cell? ⟨SB, 0, none⟩ = _ := HA3.out.one 0
              have x1 : w3.cell? ⟨SB, 1, none⟩ = _ := HA3.out.one 1
              have x2 : w3.cell? ⟨SB, 2, none⟩ = _ := HA3.out.one 2
              have x3 : w3.cell? ⟨SB, 3, none⟩ = _ := HA3.out.one 3
              have x4 : w3.cell? ⟨SB, 4, none⟩ = _ := HA3.out.one 4
              have x5 : w3.cell? ⟨SB, 5, none⟩ = _ := HA3.out.one 5
              have x6 : w3.cell? ⟨SB, 6, none⟩ = _ := HA3.out.one 6
              have x7 : w3.cell? ⟨SB, 7, none⟩ = _ := HA3.out.one 7
              have x8 : w3.cell? ⟨SB, 8, none⟩ = _ := HA3.out.one 8
              go_wp2_with fail
              refine (HTx.out _ _ HP3.out HX3.out.below).mono ?_
              rintro e w4 ⟨rfl, hq⟩
              have HX4 := Hid.mk (HX3.out.keep hq)
              have HA4 := Hid.mk (HA3.out.keep hq)
              have HP4 := Hid.mk (PXk.out _ _ _ HP3.out hq)
              clear hq
              clear q0 x0 q1 x1 q2 x2 q3 x3 q4 x4 q5 x5 q6 x6 q7 x7 q8 x8
              have q0 : w4.cell? ⟨w.heap.size + 1, 0, none⟩ = _ := HX4.out.two 0
              have q1 : w4.cell? ⟨w.heap.size + 1, 1, none⟩ = _ := HX4.out.two 1
              have q2 : w4.cell? ⟨w.heap.size + 1, 2, none⟩ = _ := HX4.out.two 2
              have q3 : w4.cell? ⟨w.heap.size + 1, 3, none⟩ = _ := HX4.out.two 3
              have q4 : w4.cell? ⟨w.heap.size + 1, 4, none⟩ = _ := HX4.out.two 4
              have q5 : w4.cell? ⟨w.heap.size + 1, 5, none⟩ = _ := HX4.out.two 5
              have q6 : w4.cell? ⟨w.heap.size + 1, 6, none⟩ = _ := HX4.out.two 6
              have q7 : w4.cell? ⟨w.heap.size + 1, 7, none⟩ = _ := HX4.out.two 7
              have q8 : w4.cell? ⟨w.heap.size + 1, 8, none⟩ = _ := HX4.out.two 8
              have x0 : w4.cell? ⟨SB, 0, none⟩ = _ := HA4.out.one 0
              have x1 : w4.cell? ⟨SB, 1, none⟩ = _ := HA4.out.one 1
              have x2 : w4.cell? ⟨SB, 2, none⟩ = _ := HA4.out.one 2
              have x3 : w4.cell? ⟨SB, 3, none⟩ = _ := HA4.out.one 3
              have x4 : w4.cell? ⟨SB, 4, none⟩ = _ := HA4.out.one 4
              have x5 : w4.cell? ⟨SB, 5, none⟩ = _ := HA4.out.one 5
              have x6 : w4.cell? ⟨SB, 6, none⟩ = _ := HA4.out.one 6
              have x7 : w4.cell? ⟨SB, 7, none⟩ = _ := HA4.out.one 7
              have x8 : w4.cell? ⟨SB, 8, none⟩ = _ := HA4.out.one 8
              cases tx with
              | false =>
                go_wp2_with fail
                go_ret
                exact ⟨by first | rfl | (simp [HSL.out]; done) | simp, HX4.out.below⟩
              | true =>
                go_wp2_with fail
                refine (HAr.out _ _ HP4.out HX4.out.below).mono ?_
                rintro e w5 ⟨rfl, hq⟩
                have HX5 := Hid.mk (HX4.out.keep hq)
                have HA5 := Hid.mk (HA4.out.keep hq)
                have HP5 := Hid.mk (PXk.out _ _ _ HP4.out hq)
                clear hq
                clear q0 x0 q1 x1 q2 x2 q3 x3 q4 x4 q5 x5 q6 x6 q7 x7 q8 x8
                have q0 : w5.cell? ⟨w.heap.size + 1, 0, none⟩ = _ := HX5.out.two 0
                have q1 : w5.cell? ⟨w.heap.size + 1, 1, none⟩ = _ := HX5.out.two 1
                have q2 : w5.cell? ⟨w.heap.size + 1, 2, none⟩ = _ := HX5.out.two 2
                have q3 : w5.cell? ⟨w.heap.size + 1, 3, none⟩ = _ := HX5.out.two 3
                have q4 : w5.cell? ⟨w.heap.size + 1, 4, none⟩ = _ := HX5.out.two 4
                have q5 : w5.cell? ⟨w.heap.size + 1, 5, none⟩ = _ := HX5.out.two 5
                have q6 : w5.cell? ⟨w.heap.size + 1, 6, none⟩ = _ := HX5.out.two 6
                have q7 : w5.cell? ⟨w.heap.size + 1, 7, none⟩ = _ := HX5.out.two 7
                have q8 : w5.cell? ⟨w.heap.size + 1, 8, none⟩ = _ := HX5.out.two 8
                have x0 : w5.cell? ⟨SB, 0, none⟩ = _ := HA5.out.one 0
                have x1 : w5.cell? ⟨SB, 1, none⟩ = _ := HA5.out.one 1
                have x2 : w5.cell? ⟨SB, 2, none⟩ = _ := HA5.out.one 2
                have x3 : w5.cell? ⟨SB, 3, none⟩ = _ := HA5.out.one 3
                have x4 : w5.cell? ⟨SB, 4, none⟩ = _ := HA5.out.one 4
                have x5 : w5.cell? ⟨SB, 5, none⟩ = _ := HA5.out.one 5
                have x6 : w5.cell? ⟨SB, 6, none⟩ = _ := HA5.out.one 6
                have x7 : w5.cell? ⟨SB, 7, none⟩ = _ := HA5.out.one 7
                have x8 : w5.cell? ⟨SB, 8, none⟩ = _ := HA5.out.one 8
                cases ar with
                | false =>
                  go_wp2_with fail
                  go_ret
                  exact ⟨by first | rfl | (simp [HSL.out]; done) | simp, HX5.out.below⟩
                | true =>
                  go_wp2_with fail
                  refine (HOb.out _ _ HP5.out HX5.out.below).mono ?_
                  rintro e w6 ⟨rfl, hq⟩
                  have HX6 := Hid.mk (HX5.out.keep hq)
                  have HA6 := Hid.mk (HA5.out.keep hq)
                  have HP6 := Hid.mk (PXk.out _ _ _ HP5.out hq)
                  clear hq
                  clear q0 x0 q1 x1 q2 x2 q3 x3 q4 x4 q5 x5 q6 x6 q7 x7 q8 x8
                  have q0 : w6.cell? ⟨w.heap.size + 1, 0, none⟩ = _ := HX6.out.two 0
                  have q1 : w6.cell? ⟨w.heap.size + 1, 1, none⟩ = _ := HX6.out.two 1
                  have q2 : w6.cell? ⟨w.heap.size + 1, 2, none⟩ = _ := HX6.out.two 2
                  have q3 : w6.cell? ⟨w.heap.size + 1, 3, none⟩ = _ := HX6.out.two 3
                  have q4 : w6.cell? ⟨w.heap.size + 1, 4, none⟩ = _ := HX6.out.two 4
                  have q5 : w6.cell? ⟨w.heap.size + 1, 5, none⟩ = _ := HX6.out.two 5
                  have q6 : w6.cell? ⟨w.heap.size + 1, 6, none⟩ = _ := HX6.out.two 6
                  have q7 : w6.cell? ⟨w.heap.size + 1, 7, none⟩ = _ := HX6.out.two 7
                  have q8 : w6.cell? ⟨w.heap.size + 1, 8, none⟩ = _ := HX6.out.two 8
                  have x0 : w6.cell? ⟨SB, 0, none⟩ = _ := HA6.out.one 0
                  have x1 : w6.cell? ⟨SB, 1, none⟩ = _ := HA6.out.one 1
                  have x2 : w6.cell? ⟨SB, 2, none⟩ = _ := HA6.out.one 2
                  have x3 : w6.cell? ⟨SB, 3, none⟩ = _ := HA6.out.one 3
                  have x4 : w6.cell? ⟨SB, 4, none⟩ = _ := HA6.out.one 4
                  have x5 : w6.cell? ⟨SB, 5, none⟩ = _ := HA6.out.one 5
                  have x6 : w6.cell? ⟨SB, 6, none⟩ = _ := HA6.out.one 6
                  have x7 : w6.cell? ⟨SB, 7, none⟩ = _ := HA6.out.one 7
                  have x8 : w6.cell? ⟨SB, 8, none⟩ = _ := HA6.out.one 8
                  go_wp2_with fail
                  go_ret
                  exact ⟨by first | rfl | (simp [HSL.out]; done) | simp, HX6.out.below⟩
      | true =>
        cases td with
        | false =>
          go_wp2_with fail
          go_ret
          exact ⟨by first | rfl | simp, HX2.out.below⟩
        | true =>
          have AQ0 := fun d os => cell_regrown q0 d os
          have AX0 := fun d os => cell_regrown x0 d os
          have AQ1 := fun d os => cell_regrown q1 d os
          have AX1 := fun d os => cell_regrown x1 d os
          have AQ2 := fun d os => cell_regrown q2 d os
          have AX2 := fun d os => cell_regrown x2 d os
          have AQ3 := fun d os => cell_regrown q3 d os
          have AX3 := fun d os => cell_regrown x3 d os
          have AQ4 := fun d os => cell_regrown q4 d os
          have AX4 := fun d os => cell_regrown x4 d os
          have AQ5 := fun d os => cell_regrown q5 d os
          have AX5 := fun d os => cell_regrown x5 d os
          have AQ6 := fun d os => cell_regrown q6 d os
          have AX6 := fun d os => cell_regrown x6 d os
          have AQ7 := fun d os => cell_regrown q7 d os
          have AX7 := fun d os => cell_regrown x7 d os
          have AQ8 := fun d os => cell_regrown q8 d os
          have AX8 := fun d os => cell_regrown x8 d os
          rcases HPS.out with ⟨rfl, rfl⟩ | ⟨p, rfl, rfl⟩
          · have HC := Hid.mk (fun (d : Nat) (os : Array Obj) => HSp.out (.empty, .empty) (.empty, .empty) okS0 okS0 (grow (redrawn W2 d) os))
            go_wp2_with fail
            refine wp_region_quiet_below (by kernel_rfl) (by kernel_rfl) ?_
            repeat (go_big_quiet_step (exact Calls.regrown_of (HC.out _ _)))
            refine wpQuiet_nil ?_
            intro w3 hw'
            have hb9 : Below W2.heap.size W2 w3 := by
              obtain ⟨⟨dq, osq⟩, rfl⟩ := hw'
              exact below_regrown W2 dq osq
            have HX3 := Hid.mk (HX2.out.keep hb9)
            have HA3 := Hid.mk (HA2.out.keep hb9)
            have HP3 := Hid.mk (PXk.out _ _ _ HP2.out hb9)
            clear hw' hb9 AQ0 AX0 AQ1 AX1 AQ2 AX2 AQ3 AX3 AQ4 AX4 AQ5 AX5 AQ6 AX6 AQ7 AX7 AQ8 AX8
            clear q0 x0 q1 x1 q2 x2 q3 x3 q4 x4 q5 x5 q6 x6 q7 x7 q8 x8
            have q0 : w3.cell? ⟨w.heap.size + 1, 0, none⟩ = _ := HX3.out.two 0
            have q1 : w3.cell? ⟨w.heap.size + 1, 1, none⟩ = _ := HX3.out.two 1
            have q2 : w3.cell? ⟨w.heap.size + 1, 2, none⟩ = _ := HX3.out.two 2
            have q3 : w3.cell? ⟨w.heap.size + 1, 3, none⟩ = _ := HX3.out.two 3
            have q4 : w3.cell? ⟨w.heap.size + 1, 4, none⟩ = _ := HX3.out.two 4
            have q5 : w3.cell? ⟨w.heap.size + 1, 5, none⟩ = _ := HX3.out.two 5
            have q6 : w3.cell? ⟨w.heap.size + 1, 6, none⟩ = _ := HX3.out.two 6
            have q7 : w3.cell? ⟨w.heap.size + 1, 7, none⟩ = _ := HX3.out.two 7
            have q8 : w3.cell? ⟨w.heap.size + 1, 8, none⟩ = _ := HX3.out.two 8
            have x0 : w3.cell? ⟨SB, 0, none⟩ = _ := HA3.out.one 0
            have x1 : w3.cell? ⟨SB, 1, none⟩ = _ := HA3.out.one 1
            have x2 : w3.cell? ⟨SB, 2, none⟩ = _ := HA3.out.one 2
            have x3 : w3.cell? ⟨SB, 3, none⟩ = _ := HA3.out.one 3
            have x4 : w3.cell? ⟨SB, 4, none⟩ = _ := HA3.out.one 4
            have x5 : w3.cell? ⟨SB, 5, none⟩ = _ := HA3.out.one 5
            have x6 : w3.cell? ⟨SB, 6, none⟩ = _ := HA3.out.one 6
            have x7 : w3.cell? ⟨SB, 7, none⟩ = _ := HA3.out.one 7
            have x8 : w3.cell? ⟨SB, 8, none⟩ = _ := HA3.out.one 8
            go_wp2_with fail
            refine (HTx.out _ _ HP3.out HX3.out.below).mono ?_
            rintro e w4 ⟨rfl, hq⟩
            have HX4 := Hid.mk (HX3.out.keep hq)
            have HA4 := Hid.mk (HA3.out.keep hq)
            have HP4 := Hid.mk (PXk.out _ _ _ HP3.out hq)
            clear hq
            clear q0 x0 q1 x1 q2 x2 q3 x3 q4 x4 q5 x5 q6 x6 q7 x7 q8 x8
            have q0 : w4.cell? ⟨w.heap.size + 1, 0, none⟩ = _ := HX4.out.two 0
            have q1 : w4.cell? ⟨w.heap.size + 1, 1, none⟩ = _ := HX4.out.two 1
            have q2 : w4.cell? ⟨w.heap.size + 1, 2, none⟩ = _ := HX4.out.two 2
            have q3 : w4.cell? ⟨w.heap.size + 1, 3, none⟩ = _ := HX4.out.two 3
            have q4 : w4.cell? ⟨w.heap.size + 1, 4, none⟩ = _ := HX4.out.two 4
            have q5 : w4.cell? ⟨w.heap.size + 1, 5, none⟩ = _ := HX4.out.two 5
            have q6 : w4.cell? ⟨w.heap.size + 1, 6, none⟩ = _ := HX4.out.two 6
            have q7 : w4.cell? ⟨w.heap.size + 1, 7, none⟩ = _ := HX4.out.two 7
            have q8 : w4.cell? ⟨w.heap.size + 1, 8, none⟩ = _ := HX4.out.two 8
            have x0 : w4.cell? ⟨SB, 0, none⟩ = _ := HA4.out.one 0
            have x1 : w4.cell? ⟨SB, 1, none⟩ = _ := HA4.out.one 1
            have x2 : w4.cell? ⟨SB, 2, none⟩ = _ := HA4.out.one 2
            have x3 : w4.cell? ⟨SB, 3, none⟩ = _ := HA4.out.one 3
            have x4 : w4.cell? ⟨SB, 4, none⟩ = _ := HA4.out.one 4
            have x5 : w4.cell? ⟨SB, 5, none⟩ = _ := HA4.out.one 5
            have x6 : w4.cell? ⟨SB, 6, none⟩ = _ := HA4.out.one 6
            have x7 : w4.cell? ⟨SB, 7, none⟩ = _ := HA4.out.one 7
            have x8 : w4.cell? ⟨SB, 8, none⟩ = _ := HA4.out.one 8
            cases tx with
            | false =>
              go_wp2_with fail
              go_ret
              exact ⟨by first | rfl | simp, HX4.out.below⟩
            | true =>
              go_wp2_with fail
              refine (HAr.out _ _ HP4.out HX4.out.below).mono ?_
              rintro e w5 ⟨rfl, hq⟩
              have HX5 := Hid.mk (HX4.out.keep hq)
              have HA5 := Hid.mk (HA4.out.keep hq)
              have HP5 := Hid.mk (PXk.out _ _ _ HP4.out hq)
              clear hq
              clear q0 x0 q1 x1 q2 x2 q3 x3 q4 x4 q5 x5 q6 x6 q7 x7 q8 x8
              have q0 : w5.cell? ⟨w.heap.size + 1, 0, none⟩ = _ := HX5.out.two 0
              have q1 : w5.cell? ⟨w.heap.size + 1, 1, none⟩ = _ := HX5.out.two 1
              have q2 : w5.cell? ⟨w.heap.size + 1, 2, none⟩ = _ := HX5.out.two 2
              have q3 : w5.cell? ⟨w.heap.size + 1, 3, none⟩ = _ := HX5.out.two 3
              have q4 : w5.cell? ⟨w.heap.size + 1, 4, none⟩ = _ := HX5.out.two 4
              have q5 : w5.cell? ⟨w.heap.size + 1, 5, none⟩ = _ := HX5.out.two 5
              have q6 : w5.cell? ⟨w.heap.size + 1, 6, none⟩ = _ := HX5.out.two 6
              have q7 : w5.cell? ⟨w.heap.size + 1, 7, none⟩ = _ := HX5.out.two 7
              have q8 : w5.cell? ⟨w.heap.size + 1, 8, none⟩ = _ := HX5.out.two 8
              have x0 : w5.cell? ⟨SB, 0, none⟩ = _ := HA5.out.one 0
              have x1 : w5.cell? ⟨SB, 1, none⟩ = _ := HA5.out.one 1
              have x2 : w5.cell? ⟨SB, 2, none⟩ = _ := HA5.out.one 2
              have x3 : w5.cell? ⟨SB, 3, none⟩ = _ := HA5.out.one 3
              have x4 : w5.cell? ⟨SB, 4, none⟩ = _ := HA5.out.one 4
              have x5 : w5.cell? ⟨SB, 5, none⟩ = _ := HA5.out.one 5
              have x6 : w5.cell? ⟨SB, 6, none⟩ = _ := HA5.out.one 6
              have x7 : w5.cell? ⟨SB, 7, none⟩ = _ := HA5.out.one 7
              have x8 : w5.cell? ⟨SB, 8, none⟩ = _ := HA5.out.one 8
              cases ar with
              | false =>
                go_wp2_with fail
                go_ret
                exact ⟨by first | rfl | simp, HX5.out.below⟩
              | true =>
                go_wp2_with fail
                refine (HOb.out _ _ HP5.out HX5.out.below).mono ?_
                rintro e w6 ⟨rfl, hq⟩
                have HX6 := Hid.mk (HX5.out.keep hq)
                have HA6 := Hid.mk (HA5.out.keep hq)
                have HP6 := Hid.mk (PXk.out _ _ _ HP5.out hq)
                clear hq
                clear q0 x0 q1 x1 q2 x2 q3 x3 q4 x4 q5 x5 q6 x6 q7 x7 q8 x8
                have q0 : w6.cell? ⟨w.heap.size + 1, 0, none⟩ = _ := HX6.out.two 0
                have q1 : w6.cell? ⟨w.heap.size + 1, 1, none⟩ = _ := HX6.out.two 1
                have q2 : w6.cell? ⟨w.heap.size + 1, 2, none⟩ = _ := HX6.out.two 2
                have q3 : w6.cell? ⟨w.heap.size + 1, 3, none⟩ = _ := HX6.out.two 3
                have q4 : w6.cell? ⟨w.heap.size + 1, 4, none⟩ = _ := HX6.out.two 4
                have q5 : w6.cell? ⟨w.heap.size + 1, 5, none⟩ = _ := HX6.out.two 5
                have q6 : w6.cell? ⟨w.heap.size + 1, 6, none⟩ = _ := HX6.out.two 6
                have q7 : w6.cell? ⟨w.heap.size + 1, 7, none⟩ = _ := HX6.out.two 7
                have q8 : w6.cell? ⟨w.heap.size + 1, 8, none⟩ = _ := HX6.out.two 8
                have x0 : w6.cell? ⟨SB, 0, none⟩ = _ := HA6.out.one 0
                have x1 : w6.cell? ⟨SB, 1, none⟩ = _ := HA6.out.one 1
                have x2 : w6.cell? ⟨SB, 2, none⟩ = _ := HA6.out.one 2
                have x3 : w6.cell? ⟨SB, 3, none⟩ = _ := HA6.out.one 3
                have x4 : w6.cell? ⟨SB, 4, none⟩ = _ := HA6.out.one 4
                have x5 : w6.cell? ⟨SB, 5, none⟩ = _ := HA6.out.one 5
                have x6 : w6.cell? ⟨SB, 6, none⟩ = _ := HA6.out.one 6
                have x7 : w6.cell? ⟨SB, 7, none⟩ = _ := HA6.out.one 7
                have x8 : w6.cell? ⟨SB, 8, none⟩ = _ := HA6.out.one 8
                go_wp2_with fail
                go_ret
                exact ⟨by first | rfl | simp, HX6.out.below⟩
          · rcases HQS.out with ⟨rfl, rfl⟩ | ⟨q, rfl, rfl⟩
            · have HC := Hid.mk (fun (d : Nat) (os : Array Obj) => HSp.out (.empty, .empty) (.empty, .empty) okS0 okS0 (grow (redrawn W2 d) os))
              go_wp2_with fail
              refine wp_region_quiet_below (by kernel_rfl) (by kernel_rfl) ?_
              repeat (go_big_quiet_step (exact Calls.regrown_of (HC.out _ _)))
              refine wpQuiet_nil ?_
              intro w3 hw'
              have hb9 : Below W2.heap.size W2 w3 := by
                obtain ⟨⟨dq, osq⟩, rfl⟩ := hw'
                exact below_regrown W2 dq osq
              have HX3 := Hid.mk (HX2.out.keep hb9)
              have HA3 := Hid.mk (HA2.out.keep hb9)
              have HP3 := Hid.mk (PXk.out _ _ _ HP2.out hb9)
              clear hw' hb9 AQ0 AX0 AQ1 AX1 AQ2 AX2 AQ3 AX3 AQ4 AX4 AQ5 AX5 AQ6 AX6 AQ7 AX7 AQ8 AX8
              clear q0 x0 q1 x1 q2 x2 q3 x3 q4 x4 q5 x5 q6 x6 q7 x7 q8 x8
              have q0 : w3.cell? ⟨w.heap.size + 1, 0, none⟩ = _ := HX3.out.two 0
              have q1 : w3.cell? ⟨w.heap.size + 1, 1, none⟩ = _ := HX3.out.two 1
              have q2 : w3.cell? ⟨w.heap.size + 1, 2, none⟩ = _ := HX3.out.two 2
              have q3 : w3.cell? ⟨w.heap.size + 1, 3, none⟩ = _ := HX3.out.two 3
              have q4 : w3.cell? ⟨w.heap.size + 1, 4, none⟩ = _ := HX3.out.two 4
              have q5 : w3.cell? ⟨w.heap.size + 1, 5, none⟩ = _ := HX3.out.two 5
              have q6 : w3.cell? ⟨w.heap.size + 1, 6, none⟩ = _ := HX3.out.two 6
              have q7 : w3.cell? ⟨w.heap.size + 1, 7, none⟩ = _ := HX3.out.two 7
              have q8 : w3.cell? ⟨w.heap.size + 1, 8, none⟩ = _ := HX3.out.two 8
              have x0 : w3.cell? ⟨SB, 0, none⟩ = _ := HA3.out.one 0
              have x1 : w3.cell? ⟨SB, 1, none⟩ = _ := HA3.out.one 1
              have x2 : w3.cell? ⟨SB, 2, none⟩ = _ := HA3.out.one 2
              have x3 : w3.cell? ⟨SB, 3, none⟩ = _ := HA3.out.one 3
              have x4 : w3.cell? ⟨SB, 4, none⟩ = _ := HA3.out.one 4
              have x5 : w3.cell? ⟨SB, 5, none⟩ = _ := HA3.out.one 5
              have x6 : w3.cell? ⟨SB, 6, none⟩ = _ := HA3.out.one 6
              have x7 : w3.cell? ⟨SB, 7, none⟩ = _ := HA3.out.one 7
              have x8 : w3.cell? ⟨SB, 8, none⟩ = _ := HA3.out.one 8
              go_wp2_with fail
              go_ret
              exact ⟨by first | rfl | simp, HX3.out.below⟩
            · obtain ⟨xb, xoff, hxo, lxb, hxr⟩ := HSX.out.row (by simp)
              obtain ⟨yb, yoff, hyo, lyb, hyr⟩ := HSY.out.row (by simp)
              subst hxo hyo
              have k1 := hxr 0 (by simp)
              have k2 := hyr 0 (by simp)
              simp only [List.getElem_cons_zero, Nat.zero_mul, Nat.add_zero] at k1 k2
              obtain ⟨m1, m2⟩ := k1
              obtain ⟨m3, m4⟩ := k2
              have M1 := fun d os => cell_regrown m1 d os
              have M2 := fun d os => cell_regrown m2 d os
              have M3 := fun d os => cell_regrown m3 d os
              have M4 := fun d os => cell_regrown m4 d os
              have HC := Hid.mk (fun (d : Nat) (os : Array Obj) => HSp.out p q (HOp.out p (List.mem_singleton.2 rfl)) (HOq.out q (List.mem_singleton.2 rfl)) (grow (redrawn W2 d) os))
              obtain ⟨sr, hsr⟩ : ∃ sr, inS p.1 p.2 q.1 q.2 = sr := ⟨_, rfl⟩
              have hsl : spL [p] [q] = sr := hsr
              have HSL := Hid.mk hsl
              rw [hsr] at HC
              clear hxr hyr hsr hsl
              cases sr with
              | false =>
                go_wp2_with fail
                refine wp_region_quiet_below (by kernel_rfl) (by kernel_rfl) ?_
                repeat (go_big_quiet_step (exact Calls.regrown_of (HC.out _ _)))
                refine wpQuiet_nil ?_
                intro w3 hw'
                have hb9 : Below W2.heap.size W2 w3 := by
                  obtain ⟨⟨dq, osq⟩, rfl⟩ := hw'
                  exact below_regrown W2 dq osq
                have HX3 := Hid.mk (HX2.out.keep hb9)
                have HA3 := Hid.mk (HA2.out.keep hb9)
                have HP3 := Hid.mk (PXk.out _ _ _ HP2.out hb9)
                clear hw' hb9 AQ0 AX0 AQ1 AX1 AQ2 AX2 AQ3 AX3 AQ4 AX4 AQ5 AX5 AQ6 AX6 AQ7 AX7 AQ8 AX8 M1 M2 M3 M4 m1 m2 m3 m4
                clear q0 x0 q1 x1 q2 x2 q3 x3 q4 x4 q5 x5 q6 x6 q7 x7 q8 x8
                have q0 : w3.cell? ⟨w.heap.size + 1, 0, none⟩ = _ := HX3.out.two 0
                have q1 : w3.cell? ⟨w.heap.size + 1, 1, none⟩ = _ := HX3.out.two 1
                have q2 : w3.cell? ⟨w.heap.size + 1, 2, none⟩ = _ := HX3.out.two 2
                have q3 : w3.cell? ⟨w.heap.size + 1, 3, none⟩ = _ := HX3.out.two 3
                have q4 : w3.cell? ⟨w.heap.size + 1, 4, none⟩ = _ := HX3.out.two 4
                have q5 : w3.cell? ⟨w.heap.size + 1, 5, none⟩ = _ := HX3.out.two 5
                have q6 : w3.cell? ⟨w.heap.size + 1, 6, none⟩ = _ := HX3.out.two 6
                have q7 : w3.cell? ⟨w.heap.size + 1, 7, none⟩ = _ := HX3.out.two 7
                have q8 : w3.cell? ⟨w.heap.size + 1, 8, none⟩ = _ := HX3.out.two 8
                have x0 : w3.cell? ⟨SB, 0, none⟩ = _ := HA3.out.one 0
                have x1 : w3.cell? ⟨SB, 1, none⟩ = _ := HA3.out.one 1
                have x2 : w3.cell? ⟨SB, 2, none⟩ = _ := HA3.out.one 2
                have x3 : w3.cell? ⟨SB, 3, none⟩ = _ := HA3.out.one 3
                have x4 : w3.cell? ⟨SB, 4, none⟩ = _ := HA3.out.one 4
                have x5 : w3.cell? ⟨SB, 5, none⟩ = _ := HA3.out.one 5
                have x6 : w3.cell? ⟨SB, 6, none⟩ = _ := HA3.out.one 6
                have x7 : w3.cell? ⟨SB, 7, none⟩ = _ := HA3.out.one 7
                have x8 : w3.cell? ⟨SB, 8, none⟩ = _ := HA3.out.one 8
                go_wp2_with fail
                go_ret
                exact ⟨by first | rfl | (simp [HSL.out]; done) | simp, HX3.out.below⟩
              | true =>
                go_wp2_with fail
                refine wp_region_quiet_below (by kernel_rfl) (by kernel_rfl) ?_
                repeat (go_big_quiet_step (exact Calls.regrown_of (HC.out _ _)))
                refine wpQuiet_nil ?_
                intro w3 hw'
                have hb9 : Below W2.heap.size W2 w3 := by
                  obtain ⟨⟨dq, osq⟩, rfl⟩ := hw'
                  exact below_regrown W2 dq osq
                have HX3 := Hid.mk (HX2.out.keep hb9)
                have HA3 := Hid.mk (HA2.out.keep hb9)
                have HP3 := Hid.mk (PXk.out _ _ _ HP2.out hb9)
                clear hw' hb9 AQ0 AX0 AQ1 AX1 AQ2 AX2 AQ3 AX3 AQ4 AX4 AQ5 AX5 AQ6 AX6 AQ7 AX7 AQ8 AX8 M1 M2 M3 M4 m1 m2 m3 m4
                clear q0 x0 q1 x1 q2 x2 q3 x3 q4 x4 q5 x5 q6 x6 q7 x7 q8 x8
                have q0 : w3.cell? ⟨w.heap.size + 1, 0, none⟩ = _ := HX3.out.two 0
                have q1 : w3.cell? ⟨w.heap.size + 1, 1, none⟩ = _ := HX3.out.two 1
                have q2 : w3.cell? ⟨w.heap.size + 1, 2, none⟩ = _ := HX3.out.two 2
                have q3 : w3.cell? ⟨w.heap.size + 1, 3, none⟩ = _ := HX3.out.two 3
                have q4 : w3.cell? ⟨w.heap.size + 1, 4, none⟩ = _ := HX3.out.two 4
                have q5 : w3.cell? ⟨w.heap.size + 1, 5, none⟩ = _ := HX3.out.two 5
                have q6 : w3.cell? ⟨w.heap.size + 1, 6, none⟩ = _ := HX3.out.two 6
                have q7 : w3.cell? ⟨w.heap.size + 1, 7, none⟩ = _ := HX3.out.two 7
                have q8 : w3.cell? ⟨w.heap.size + 1, 8, none⟩ = _ := HX3.out.two 8
                have x0 : w3.cell? ⟨SB, 0, none⟩ = _ := HA3.out.one 0
                have x1 : w3.cell? ⟨SB, 1, none⟩ = _ := HA3.out.one 1
                have x2 : w3.cell? ⟨SB, 2, none⟩ = _ := HA3.out.one 2
                have x3 : w3.cell? ⟨SB, 3, none⟩ = _ := HA3.out.one 3
                have x4 : w3.cell? ⟨SB, 4, none⟩ = _ := HA3.out.one 4
                have x5 : w3.cell? ⟨SB, 5, none⟩ = _ := HA3.out.one 5
                have x6 : w3.cell? ⟨SB, 6, none⟩ = _ := HA3.out.one 6
                have x7 : w3.cell? ⟨SB, 7, none⟩ = _ := HA3.out.one 7
                have x8 : w3.cell? ⟨SB, 8, none⟩ = _ := HA3.out.one 8
                go_wp2_with fail
                refine (HTx.out _ _ HP3.out HX3.out.below).mono ?_
                rintro e w4 ⟨rfl, hq⟩
                have HX4 := Hid.mk (HX3.out.keep hq)
                have HA4 := Hid.mk (HA3.out.keep hq)
                have HP4 := Hid.mk (PXk.out _ _ _ HP3.out hq)
                clear hq
                clear q0 x0 q1 x1 q2 x2 q3 x3 q4 x4 q5 x5 q6 x6 q7 x7 q8 x8
                have q0 : w4.cell? ⟨w.heap.size + 1, 0, none⟩ = _ := HX4.out.two 0
                have q1 : w4.cell? ⟨w.heap.size + 1, 1, none⟩ = _ := HX4.out.two 1
                have q2 : w4.cell? ⟨w.heap.size + 1, 2, none⟩ = _ := HX4.out.two 2
                have q3 : w4.cell? ⟨w.heap.size + 1, 3, none⟩ = _ := HX4.out.two 3
                have q4 : w4.cell? ⟨w.heap.size + 1, 4, none⟩ = _ := HX4.out.two 4
                have q5 : w4.cell? ⟨w.heap.size + 1, 5, none⟩ = _ := HX4.out.two 5
                have q6 : w4.cell? ⟨w.heap.size + 1, 6, none⟩ = _ := HX4.out.two 6
                have q7 : w4.cell? ⟨w.heap.size + 1, 7, none⟩ = _ := HX4.out.two 7
                have q8 : w4.cell? ⟨w.heap.size + 1, 8, none⟩ = _ := HX4.out.two 8
                have x0 : w4.cell? ⟨SB, 0, none⟩ = _ := HA4.out.one 0
                have x1 : w4.cell? ⟨SB, 1, none⟩ = _ := HA4.out.one 1
                have x2 : w4.cell? ⟨SB, 2, none⟩ = _ := HA4.out.one 2
                have x3 : w4.cell? ⟨SB, 3, none⟩ = _ := HA4.out.one 3
                have x4 : w4.cell? ⟨SB, 4, none⟩ = _ := HA4.out.one 4
                have x5 : w4.cell? ⟨SB, 5, none⟩ = _ := HA4.out.one 5
                have x6 : w4.cell? ⟨SB, 6, none⟩ = _ := HA4.out.one 6
                have x7 : w4.cell? ⟨SB, 7, none⟩ = _ := HA4.out.one 7
                have x8 : w4.cell? ⟨SB, 8, none⟩ = _ := HA4.out.one 8
                cases tx with
                | false =>
                  go_wp2_with fail
                  go_ret
                  exact ⟨by first | rfl | (simp [HSL.out]; done) | simp, HX4.out.below⟩
                | true =>
                  go_wp2_with fail
                  refine (HAr.out _ _ HP4.out HX4.out.below).mono ?_
                  rintro e w5 ⟨rfl, hq⟩
                  have HX5 := Hid.mk (HX4.out.keep hq)
                  have HA5 := Hid.mk (HA4.out.keep hq)
                  have HP5 := Hid.mk (PXk.out _ _ _ HP4.out hq)
                  clear hq
                  clear q0 x0 q1 x1 q2 x2 q3 x3 q4 x4 q5 x5 q6 x6 q7 x7 q8 x8
                  have q0 : w5.cell? ⟨w.heap.size + 1, 0, none⟩ = _ := HX5.out.two 0
                  have q1 : w5.cell? ⟨w.heap.size + 1, 1, none⟩ = _ := HX5.out.two 1
                  have q2 : w5.cell? ⟨w.heap.size + 1, 2, none⟩ = _ := HX5.out.two 2
                  have q3 : w5.cell? ⟨w.heap.size + 1, 3, none⟩ = _ := HX5.out.two 3
                  have q4 : w5.cell? ⟨w.heap.size + 1, 4, none⟩ = _ := HX5.out.two 4
                  have q5 : w5.cell? ⟨w.heap.size + 1, 5, none⟩ = _ := HX5.out.two 5
                  have q6 : w5.cell? ⟨w.heap.size + 1, 6, none⟩ = _ := HX5.out.two 6
                  have q7 : w5.cell? ⟨w.heap.size + 1, 7, none⟩ = _ := HX5.out.two 7
                  have q8 : w5.cell? ⟨w.heap.size + 1, 8, none⟩ = _ := HX5.out.two 8
                  have x0 : w5.cell? ⟨SB, 0, none⟩ = _ := HA5.out.one 0
                  have x1 : w5.cell? ⟨SB, 1, none⟩ = _ := HA5.out.one 1
                  have x2 : w5.cell? ⟨SB, 2, none⟩ = _ := HA5.out.one 2
                  have x3 : w5.cell? ⟨SB, 3, none⟩ = _ := HA5.out.one 3
                  have x4 : w5.cell? ⟨SB, 4, none⟩ = _ := HA5.out.one 4
                  have x5 : w5.cell? ⟨SB, 5, none⟩ = _ := HA5.out.one 5
                  have x6 : w5.cell? ⟨SB, 6, none⟩ = _ := HA5.out.one 6
                  have x7 : w5.cell? ⟨SB, 7, none⟩ = _ := HA5.out.one 7
                  have x8 : w5.cell? ⟨SB, 8, none⟩ = _ := HA5.out.one 8
                  cases ar with
                  | false =>
                    go_wp2_with fail
                    go_ret
                    exact ⟨by first | rfl | (simp [HSL.out]; done) | simp, HX5.out.below⟩
                  | true =>
                    go_wp2_with fail
                    refine (HOb.out _ _ HP5.out HX5.out.below).mono ?_
                    rintro e w6 ⟨rfl, hq⟩
                    have HX6 := Hid.mk (HX5.out.keep hq)
                    have HA6 := Hid.mk (HA5.out.keep hq)
                    have HP6 := Hid.mk (PXk.out _ _ _ HP5.out hq)
                    clear hq
                    clear q0 x0 q1 x1 q2 x2 q3 x3 q4 x4 q5 x5 q6 x6 q7 x7 q8 x8
                    have q0 : w6.cell? ⟨w.heap.size + 1, 0, none⟩ = _ := HX6.out.two 0
                    have q1 : w6.cell? ⟨w.heap.size + 1, 1, none⟩ = _ := HX6.out.two 1
                    have q2 : w6.cell? ⟨w.heap.size + 1, 2, none⟩ = _ := HX6.out.two 2
                    have q3 : w6.cell? ⟨w.heap.size + 1, 3, none⟩ = _ := HX6.out.two 3
                    have q4 : w6.cell? ⟨w.heap.size + 1, 4, none⟩ = _ := HX6.out.two 4
                    have q5 : w6.cell? ⟨w.heap.size + 1, 5, none⟩ = _ := HX6.out.two 5
                    have q6 : w6.cell? ⟨w.heap.size + 1, 6, none⟩ = _ := HX6.out.two 6
                    have q7 : w6.cell? ⟨w.heap.size + 1, 7, none⟩ = _ := HX6.out.two 7
                    have q8 : w6.cell? ⟨w.heap.size + 1, 8, none⟩ = _ := HX6.out.two 8
                    have x0 : w6.cell? ⟨SB, 0, none⟩ = _ := HA6.out.one 0
                    have x1 : w6.cell? ⟨SB, 1, none⟩ = _ := HA6.out.one 1
                    have x2 : w6.cell? ⟨SB, 2, none⟩ = _ := HA6.out.one 2
                    have x3 : w6.cell? ⟨SB, 3, none⟩ = _ := HA6.out.one 3
                    have x4 : w6.cell? ⟨SB, 4, none⟩ = _ := HA6.out.one 4
                    have x5 : w6.cell? ⟨SB, 5, none⟩ = _ := HA6.out.one 5
                    have x6 : w6.cell? ⟨SB, 6, none⟩ = _ := HA6.out.one 6
                    have x7 : w6.cell? ⟨SB, 7, none⟩ = _ := HA6.out.one 7
                    have x8 : w6.cell? ⟨SB, 8, none⟩ = _ := HA6.out.one 8
                    go_wp2_with fail
                    go_ret
                    exact ⟨by first | rfl | (simp [HSL.out]; done) | simp, HX6.out.below⟩
    | true =>
      cases tc with
      | false =>
        go_wp2_with fail
        go_ret
        exact ⟨by first | rfl | simp, HX2.out.below⟩
      | true =>
        cases xt with
        | false =>
          have AQ0 := fun d os => cell_regrown q0 d os
          have AX0 := fun d os => cell_regrown x0 d os
          have AQ1 := fun d os => cell_regrown q1 d os
          have AX1 := fun d os => cell_regrown x1 d os
          have AQ2 := fun d os => cell_regrown q2 d os
          have AX2 := fun d os => cell_regrown x2 d os
          have AQ3 := fun d os => cell_regrown q3 d os
          have AX3 := fun d os => cell_regrown x3 d os
          have AQ4 := fun d os => cell_regrown q4 d os
          have AX4 := fun d os => cell_regrown x4 d os
          have AQ5 := fun d os => cell_regrown q5 d os
          have AX5 := fun d os => cell_regrown x5 d os
          have AQ6 := fun d os => cell_regrown q6 d os
          have AX6 := fun d os => cell_regrown x6 d os
          have AQ7 := fun d os => cell_regrown q7 d os
          have AX7 := fun d os => cell_regrown x7 d os
          have AQ8 := fun d os => cell_regrown q8 d os
          have AX8 := fun d os => cell_regrown x8 d os
          rcases HPS.out with ⟨rfl, rfl⟩ | ⟨p, rfl, rfl⟩
          · have HC := Hid.mk (fun (d : Nat) (os : Array Obj) => HSp.out (.empty, .empty) (.empty, .empty) okS0 okS0 (grow (redrawn W2 d) os))
            go_wp2_with fail
            refine wp_region_quiet_below (by kernel_rfl) (by kernel_rfl) ?_
            repeat (go_big_quiet_step (exact Calls.regrown_of (HC.out _ _)))
            refine wpQuiet_nil ?_
            intro w3 hw'
            have hb9 : Below W2.heap.size W2 w3 := by
              obtain ⟨⟨dq, osq⟩, rfl⟩ := hw'
              exact below_regrown W2 dq osq
            have HX3 := Hid.mk (HX2.out.keep hb9)
            have HA3 := Hid.mk (HA2.out.keep hb9)
            have HP3 := Hid.mk (PXk.out _ _ _ HP2.out hb9)
            clear hw' hb9 AQ0 AX0 AQ1 AX1 AQ2 AX2 AQ3 AX3 AQ4 AX4 AQ5 AX5 AQ6 AX6 AQ7 AX7 AQ8 AX8
            clear q0 x0 q1 x1 q2 x2 q3 x3 q4 x4 q5 x5 q6 x6 q7 x7 q8 x8
            have q0 : w3.cell? ⟨w.heap.size + 1, 0, none⟩ = _ := HX3.out.two 0
            have q1 : w3.cell? ⟨w.heap.size + 1, 1, none⟩ = _ := HX3.out.two 1
            have q2 : w3.cell? ⟨w.heap.size + 1, 2, none⟩ = _ := HX3.out.two 2
            have q3 : w3.cell? ⟨w.heap.size + 1, 3, none⟩ = _ := HX3.out.two 3
            have q4 : w3.cell? ⟨w.heap.size + 1, 4, none⟩ = _ := HX3.out.two 4
            have q5 : w3.cell? ⟨w.heap.size + 1, 5, none⟩ = _ := HX3.out.two 5
            have q6 : w3.cell? ⟨w.heap.size + 1, 6, none⟩ = _ := HX3.out.two 6
            have q7 : w3.cell? ⟨w.heap.size + 1, 7, none⟩ = _ := HX3.out.two 7
            have q8 : w3.cell? ⟨w.heap.size + 1, 8, none⟩ = _ := HX3.out.two 8
            have x0 : w3.cell? ⟨SB, 0, none⟩ = _ := HA3.out.one 0
            have x1 : w3.cell? ⟨SB, 1, none⟩ = _ := HA3.out.one 1
            have x2 : w3.cell? ⟨SB, 2, none⟩ = _ := HA3.out.one 2
            have x3 : w3.cell? ⟨SB, 3, none⟩ = _ := HA3.out.one 3
            have x4 : w3.cell? ⟨SB, 4, none⟩ = _ := HA3.out.one 4
            have x5 : w3.cell? ⟨SB, 5, none⟩ = _ := HA3.out.one 5
            have x6 : w3.cell? ⟨SB, 6, none⟩ = _ := HA3.out.one 6
            have x7 : w3.cell? ⟨SB, 7, none⟩ = _ := HA3.out.one 7
            have x8 : w3.cell? ⟨SB, 8, none⟩ = _ := HA3.out.one 8
            go_wp2_with fail
            refine (HTx.out _ _ HP3.out HX3.out.below).mono ?_
            rintro e w4 ⟨rfl, hq⟩
            have HX4 := Hid.mk (HX3.out.keep hq)
            have HA4 := Hid.mk (HA3.out.keep hq)
            have HP4 := Hid.mk (PXk.out _ _ _ HP3.out hq)
            clear hq
            clear q0 x0 q1 x1 q2 x2 q3 x3 q4 x4 q5 x5 q6 x6 q7 x7 q8 x8
            have q0 : w4.cell? ⟨w.heap.size + 1, 0, none⟩ = _ := HX4.out.two 0
            have q1 : w4.cell? ⟨w.heap.size + 1, 1, none⟩ = _ := HX4.out.two 1
            have q2 : w4.cell? ⟨w.heap.size + 1, 2, none⟩ = _ := HX4.out.two 2
            have q3 : w4.cell? ⟨w.heap.size + 1, 3, none⟩ = _ := HX4.out.two 3
            have q4 : w4.cell? ⟨w.heap.size + 1, 4, none⟩ = _ := HX4.out.two 4
            have q5 : w4.cell? ⟨w.heap.size + 1, 5, none⟩ = _ := HX4.out.two 5
            have q6 : w4.cell? ⟨w.heap.size + 1, 6, none⟩ = _ := HX4.out.two 6
            have q7 : w4.cell? ⟨w.heap.size + 1, 7, none⟩ = _ := HX4.out.two 7
            have q8 : w4.cell? ⟨w.heap.size + 1, 8, none⟩ = _ := HX4.out.two 8
            have x0 : w4.cell? ⟨SB, 0, none⟩ = _ := HA4.out.one 0
            have x1 : w4.cell? ⟨SB, 1, none⟩ = _ := HA4.out.one 1
            have x2 : w4.cell? ⟨SB, 2, none⟩ = _ := HA4.out.one 2
            have x3 : w4.cell? ⟨SB, 3, none⟩ = _ := HA4.out.one 3
            have x4 : w4.cell? ⟨SB, 4, none⟩ = _ := HA4.out.one 4
            have x5 : w4.cell? ⟨SB, 5, none⟩ = _ := HA4.out.one 5
            have x6 : w4.cell? ⟨SB, 6, none⟩ = _ := HA4.out.one 6
            have x7 : w4.cell? ⟨SB, 7, none⟩ = _ := HA4.out.one 7
            have x8 : w4.cell? ⟨SB, 8, none⟩ = _ := HA4.out.one 8
            cases tx with
            | false =>
              go_wp2_with fail
              go_ret
              exact ⟨by first | rfl | simp, HX4.out.below⟩
            | true =>
              go_wp2_with fail
              refine (HAr.out _ _ HP4.out HX4.out.below).mono ?_
              rintro e w5 ⟨rfl, hq⟩
              have HX5 := Hid.mk (HX4.out.keep hq)
              have HA5 := Hid.mk (HA4.out.keep hq)
              have HP5 := Hid.mk (PXk.out _ _ _ HP4.out hq)
              clear hq
              clear q0 x0 q1 x1 q2 x2 q3 x3 q4 x4 q5 x5 q6 x6 q7 x7 q8 x8
              have q0 : w5.cell? ⟨w.heap.size + 1, 0, none⟩ = _ := HX5.out.two 0
              have q1 : w5.cell? ⟨w.heap.size + 1, 1, none⟩ = _ := HX5.out.two 1
              have q2 : w5.cell? ⟨w.heap.size + 1, 2, none⟩ = _ := HX5.out.two 2
              have q3 : w5.cell? ⟨w.heap.size + 1, 3, none⟩ = _ := HX5.out.two 3
              have q4 : w5.cell? ⟨w.heap.size + 1, 4, none⟩ = _ := HX5.out.two 4
              have q5 : w5.cell? ⟨w.heap.size + 1, 5, none⟩ = _ := HX5.out.two 5
              have q6 : w5.cell? ⟨w.heap.size + 1, 6, none⟩ = _ := HX5.out.two 6
              have q7 : w5.cell? ⟨w.heap.size + 1, 7, none⟩ = _ := HX5.out.two 7
              have q8 : w5.cell? ⟨w.heap.size + 1, 8, none⟩ = _ := HX5.out.two 8
              have x0 : w5.cell? ⟨SB, 0, none⟩ = _ := HA5.out.one 0
              have x1 : w5.cell? ⟨SB, 1, none⟩ = _ := HA5.out.one 1
              have x2 : w5.cell? ⟨SB, 2, none⟩ = _ := HA5.out.one 2
              have x3 : w5.cell? ⟨SB, 3, none⟩ = _ := HA5.out.one 3
              have x4 : w5.cell? ⟨SB, 4, none⟩ = _ := HA5.out.one 4
              have x5 : w5.cell? ⟨SB, 5, none⟩ = _ := HA5.out.one 5
              have x6 : w5.cell? ⟨SB, 6, none⟩ = _ := HA5.out.one 6
              have x7 : w5.cell? ⟨SB, 7, none⟩ = _ := HA5.out.one 7
              have x8 : w5.cell? ⟨SB, 8, none⟩ = _ := HA5.out.one 8
              cases ar with
              | false =>
                go_wp2_with fail
                go_ret
                exact ⟨by first | rfl | simp, HX5.out.below⟩
              | true =>
                go_wp2_with fail
                refine (HOb.out _ _ HP5.out HX5.out.below).mono ?_
                rintro e w6 ⟨rfl, hq⟩
                have HX6 := Hid.mk (HX5.out.keep hq)
                have HA6 := Hid.mk (HA5.out.keep hq)
                have HP6 := Hid.mk (PXk.out _ _ _ HP5.out hq)
                clear hq
                clear q0 x0 q1 x1 q2 x2 q3 x3 q4 x4 q5 x5 q6 x6 q7 x7 q8 x8
                have q0 : w6.cell? ⟨w.heap.size + 1, 0, none⟩ = _ := HX6.out.two 0
                have q1 : w6.cell? ⟨w.heap.size + 1, 1, none⟩ = _ := HX6.out.two 1
                have q2 : w6.cell? ⟨w.heap.size + 1, 2, none⟩ = _ := HX6.out.two 2
                have q3 : w6.cell? ⟨w.heap.size + 1, 3, none⟩ = _ := HX6.out.two 3
                have q4 : w6.cell? ⟨w.heap.size + 1, 4, none⟩ = _ := HX6.out.two 4
                have q5 : w6.cell? ⟨w.heap.size + 1, 5, none⟩ = _ := HX6.out.two 5
                have q6 : w6.cell? ⟨w.heap.size + 1, 6, none⟩ = _ := HX6.out.two 6
                have q7 : w6.cell? ⟨w.heap.size + 1, 7, none⟩ = _ := HX6.out.two 7
                have q8 : w6.cell? ⟨w.heap.size + 1, 8, none⟩ = _ := HX6.out.two 8
                have x0 : w6.cell? ⟨SB, 0, none⟩ = _ := HA6.out.one 0
                have x1 : w6.cell? ⟨SB, 1, none⟩ = _ := HA6.out.one 1
                have x2 : w6.cell? ⟨SB, 2, none⟩ = _ := HA6.out.one 2
                have x3 : w6.cell? ⟨SB, 3, none⟩ = _ := HA6.out.one 3
                have x4 : w6.cell? ⟨SB, 4, none⟩ = _ := HA6.out.one 4
                have x5 : w6.cell? ⟨SB, 5, none⟩ = _ := HA6.out.one 5
                have x6 : w6.cell? ⟨SB, 6, none⟩ = _ := HA6.out.one 6
                have x7 : w6.cell? ⟨SB, 7, none⟩ = _ := HA6.out.one 7
                have x8 : w6.cell? ⟨SB, 8, none⟩ = _ := HA6.out.one 8
                go_wp2_with fail
                go_ret
                exact ⟨by first | rfl | simp, HX6.out.below⟩
          · rcases HQS.out with ⟨rfl, rfl⟩ | ⟨q, rfl, rfl⟩
            · have HC := Hid.mk (fun (d : Nat) (os : Array Obj) => HSp.out (.empty, .empty) (.empty, .empty) okS0 okS0 (grow (redrawn W2 d) os))
              go_wp2_with fail
              refine wp_region_quiet_below (by kernel_rfl) (by kernel_rfl) ?_
              repeat (go_big_quiet_step (exact Calls.regrown_of (HC.out _ _)))
              refine wpQuiet_nil ?_
              intro w3 hw'
              have hb9 : Below W2.heap.size W2 w3 := by
                obtain ⟨⟨dq, osq⟩, rfl⟩ := hw'
                exact below_regrown W2 dq osq
              have HX3 := Hid.mk (HX2.out.keep hb9)
              have HA3 := Hid.mk (HA2.out.keep hb9)
              have HP3 := Hid.mk (PXk.out _ _ _ HP2.out hb9)
              clear hw' hb9 AQ0 AX0 AQ1 AX1 AQ2 AX2 AQ3 AX3 AQ4 AX4 AQ5 AX5 AQ6 AX6 AQ7 AX7 AQ8 AX8
              clear q0 x0 q1 x1 q2 x2 q3 x3 q4 x4 q5 x5 q6 x6 q7 x7 q8 x8
              have q0 : w3.cell? ⟨w.heap.size + 1, 0, none⟩ = _ := HX3.out.two 0
              have q1 : w3.cell? ⟨w.heap.size + 1, 1, none⟩ = _ := HX3.out.two 1
              have q2 : w3.cell? ⟨w.heap.size + 1, 2, none⟩ = _ := HX3.out.two 2
              have q3 : w3.cell? ⟨w.heap.size + 1, 3, none⟩ = _ := HX3.out.two 3
              have q4 : w3.cell? ⟨w.heap.size + 1, 4, none⟩ = _ := HX3.out.two 4
              have q5 : w3.cell? ⟨w.heap.size + 1, 5, none⟩ = _ := HX3.out.two 5
              have q6 : w3.cell? ⟨w.heap.size + 1, 6, none⟩ = _ := HX3.out.two 6
              have q7 : w3.cell? ⟨w.heap.size + 1, 7, none⟩ = _ := HX3.out.two 7
              have q8 : w3.cell? ⟨w.heap.size + 1, 8, none⟩ = _ := HX3.out.two 8
              have x0 : w3.cell? ⟨SB, 0, none⟩ = _ := HA3.out.one 0
              have x1 : w3.cell? ⟨SB, 1, none⟩ = _ := HA3.out.one 1
              have x2 : w3.cell? ⟨SB, 2, none⟩ = _ := HA3.out.one 2
              have x3 : w3.cell? ⟨SB, 3, none⟩ = _ := HA3.out.one 3
              have x4 : w3.cell? ⟨SB, 4, none⟩ = _ := HA3.out.one 4
              have x5 : w3.cell? ⟨SB, 5, none⟩ = _ := HA3.out.one 5
              have x6 : w3.cell? ⟨SB, 6, none⟩ = _ := HA3.out.one 6
              have x7 : w3.cell? ⟨SB, 7, none⟩ = _ := HA3.out.one 7
              have x8 : w3.cell? ⟨SB, 8, none⟩ = _ := HA3.out.one 8
              go_wp2_with fail
              go_ret
              exact ⟨by first | rfl | simp, HX3.out.below⟩
            · obtain ⟨xb, xoff, hxo, lxb, hxr⟩ := HSX.out.row (by simp)
              obtain ⟨yb, yoff, hyo, lyb, hyr⟩ := HSY.out.row (by simp)
              subst hxo hyo
              have k1 := hxr 0 (by simp)
              have k2 := hyr 0 (by simp)
              simp only [List.getElem_cons_zero, Nat.zero_mul, Nat.add_zero] at k1 k2
              obtain ⟨m1, m2⟩ := k1
              obtain ⟨m3, m4⟩ := k2
              have M1 := fun d os => cell_regrown m1 d os
              have M2 := fun d os => cell_regrown m2 d os
              have M3 := fun d os => cell_regrown m3 d os
              have M4 := fun d os => cell_regrown m4 d os
              have HC := Hid.mk (fun (d : Nat) (os : Array Obj) => HSp.out p q (HOp.out p (List.mem_singleton.2 rfl)) (HOq.out q (List.mem_singleton.2 rfl)) (grow (redrawn W2 d) os))
              obtain ⟨sr, hsr⟩ : ∃ sr, inS p.1 p.2 q.1 q.2 = sr := ⟨_, rfl⟩
              have hsl : spL [p] [q] = sr := hsr
              have HSL := Hid.mk hsl
              rw [hsr] at HC
              clear hxr hyr hsr hsl
              cases sr with
              | false =>
                go_wp2_with fail
                refine wp_region_quiet_below (by kernel_rfl) (by kernel_rfl) ?_
                repeat (go_big_quiet_step (exact Calls.regrown_of (HC.out _ _)))
                refine wpQuiet_nil ?_
                intro w3 hw'
                have hb9 : Below W2.heap.size W2 w3 := by
                  obtain ⟨⟨dq, osq⟩, rfl⟩ := hw'
                  exact below_regrown W2 dq osq
                have HX3 := Hid.mk (HX2.out.keep hb9)
                have HA3 := Hid.mk (HA2.out.keep hb9)
                have HP3 := Hid.mk (PXk.out _ _ _ HP2.out hb9)
                clear hw' hb9 AQ0 AX0 AQ1 AX1 AQ2 AX2 AQ3 AX3 AQ4 AX4 AQ5 AX5 AQ6 AX6 AQ7 AX7 AQ8 AX8 M1 M2 M3 M4 m1 m2 m3 m4
                clear q0 x0 q1 x1 q2 x2 q3 x3 q4 x4 q5 x5 q6 x6 q7 x7 q8 x8
                have q0 : w3.cell? ⟨w.heap.size + 1, 0, none⟩ = _ := HX3.out.two 0
                have q1 : w3.cell? ⟨w.heap.size + 1, 1, none⟩ = _ := HX3.out.two 1
                have q2 : w3.cell? ⟨w.heap.size + 1, 2, none⟩ = _ := HX3.out.two 2
                have q3 : w3.cell? ⟨w.heap.size + 1, 3, none⟩ = _ := HX3.out.two 3
                have q4 : w3.cell? ⟨w.heap.size + 1, 4, none⟩ = _ := HX3.out.two 4
                have q5 : w3.cell? ⟨w.heap.size + 1, 5, none⟩ = _ := HX3.out.two 5
                have q6 : w3.cell? ⟨w.heap.size + 1, 6, none⟩ = _ := HX3.out.two 6
                have q7 : w3.cell? ⟨w.heap.size + 1, 7, none⟩ = _ := HX3.out.two 7
                have q8 : w3.cell? ⟨w.heap.size + 1, 8, none⟩ = _ := HX3.out.two 8
                have x0 : w3.cell? ⟨SB, 0, none⟩ = _ := HA3.out.one 0
                have x1 : w3.cell? ⟨SB, 1, none⟩ = _ := HA3.out.one 1
                have x2 : w3.cell? ⟨SB, 2, none⟩ = _ := HA3.out.one 2
                have x3 : w3.cell? ⟨SB, 3, none⟩ = _ := HA3.out.one 3
                have x4 : w3.cell? ⟨SB, 4, none⟩ = _ := HA3.out.one 4
                have x5 : w3.cell? ⟨SB, 5, none⟩ = _ := HA3.out.one 5
                have x6 : w3.cell? ⟨SB, 6, none⟩ = _ := HA3.out.one 6
                have x7 : w3.cell? ⟨SB, 7, none⟩ = _ := HA3.out.one 7
                have x8 : w3.cell? ⟨SB, 8, none⟩ = _ := HA3.out.one 8
                go_wp2_with fail
                go_ret
                exact ⟨by first | rfl | (simp [HSL.out]; done) | simp, HX3.out.below⟩
              | true =>
                go_wp2_with fail
                refine wp_region_quiet_below (by kernel_rfl) (by kernel_rfl) ?_
                repeat (go_big_quiet_step (exact Calls.regrown_of (HC.out _ _)))
                refine wpQuiet_nil ?_
                intro w3 hw'
                have hb9 : Below W2.heap.size W2 w3 := by
                  obtain ⟨⟨dq, osq⟩, rfl⟩ := hw'
                  exact below_regrown W2 dq osq
                have HX3 := Hid.mk (HX2.out.keep hb9)
                have HA3 := Hid.mk (HA2.out.keep hb9)
                have HP3 := Hid.mk (PXk.out _ _ _ HP2.out hb9)
                clear hw' hb9 AQ0 AX0 AQ1 AX1 AQ2 AX2 AQ3 AX3 AQ4 AX4 AQ5 AX5 AQ6 AX6 AQ7 AX7 AQ8 AX8 M1 M2 M3 M4 m1 m2 m3 m4
                clear q0 x0 q1 x1 q2 x2 q3 x3 q4 x4 q5 x5 q6 x6 q7 x7 q8 x8
                have q0 : w3.cell? ⟨w.heap.size + 1, 0, none⟩ = _ := HX3.out.two 0
                have q1 : w3.cell? ⟨w.heap.size + 1, 1, none⟩ = _ := HX3.out.two 1
                have q2 : w3.cell? ⟨w.heap.size + 1, 2, none⟩ = _ := HX3.out.two 2
                have q3 : w3.cell? ⟨w.heap.size + 1, 3, none⟩ = _ := HX3.out.two 3
                have q4 : w3.cell? ⟨w.heap.size + 1, 4, none⟩ = _ := HX3.out.two 4
                have q5 : w3.cell? ⟨w.heap.size + 1, 5, none⟩ = _ := HX3.out.two 5
                have q6 : w3.cell? ⟨w.heap.size + 1, 6, none⟩ = _ := HX3.out.two 6
                have q7 : w3.cell? ⟨w.heap.size + 1, 7, none⟩ = _ := HX3.out.two 7
                have q8 : w3.cell? ⟨w.heap.size + 1, 8, none⟩ = _ := HX3.out.two 8
                have x0 : w3.cell? ⟨SB, 0, none⟩ = _ := HA3.out.one 0
                have x1 : w3.cell? ⟨SB, 1, none⟩ = _ := HA3.out.one 1
                have x2 : w3.cell? ⟨SB, 2, none⟩ = _ := HA3.out.one 2
                have x3 : w3.cell? ⟨SB, 3, none⟩ = _ := HA3.out.one 3
                have x4 : w3.cell? ⟨SB, 4, none⟩ = _ := HA3.out.one 4
                have x5 : w3.cell? ⟨SB, 5, none⟩ = _ := HA3.out.one 5
                have x6 : w3.cell? ⟨SB, 6, none⟩ = _ := HA3.out.one 6
                have x7 : w3.cell? ⟨SB, 7, none⟩ = _ := HA3.out.one 7
                have x8 : w3.cell? ⟨SB, 8, none⟩ = _ := HA3.out.one 8
                go_wp2_with fail
                refine (HTx.out _ _ HP3.out HX3.out.below).mono ?_
                rintro e w4 ⟨rfl, hq⟩
                have HX4 := Hid.mk (HX3.out.keep hq)
                have HA4 := Hid.mk (HA3.out.keep hq)
                have HP4 := Hid.mk (PXk.out _ _ _ HP3.out hq)
                clear hq
                clear q0 x0 q1 x1 q2 x2 q3 x3 q4 x4 q5 x5 q6 x6 q7 x7 q8 x8
                have q0 : w4.cell? ⟨w.heap.size + 1, 0, none⟩ = _ := HX4.out.two 0
                have q1 : w4.cell? ⟨w.heap.size + 1, 1, none⟩ = _ := HX4.out.two 1
                have q2 : w4.cell? ⟨w.heap.size + 1, 2, none⟩ = _ := HX4.out.two 2
                have q3 : w4.cell? ⟨w.heap.size + 1, 3, none⟩ = _ := HX4.out.two 3
                have q4 : w4.cell? ⟨w.heap.size + 1, 4, none⟩ = _ := HX4.out.two 4
                have q5 : w4.cell? ⟨w.heap.size + 1, 5, none⟩ = _ := HX4.out.two 5
                have q6 : w4.cell? ⟨w.heap.size + 1, 6, none⟩ = _ := HX4.out.two 6
                have q7 : w4.cell? ⟨w.heap.size + 1, 7, none⟩ = _ := HX4.out.two 7
                have q8 : w4.cell? ⟨w.heap.size + 1, 8, none⟩ = _ := HX4.out.two 8
                have x0 : w4.cell? ⟨SB, 0, none⟩ = _ := HA4.out.one 0
                have x1 : w4.cell? ⟨SB, 1, none⟩ = _ := HA4.out.one 1
                have x2 : w4.cell? ⟨SB, 2, none⟩ = _ := HA4.out.one 2
                have x3 : w4.cell? ⟨SB, 3, none⟩ = _ := HA4.out.one 3
                have x4 : w4.cell? ⟨SB, 4, none⟩ = _ := HA4.out.one 4
                have x5 : w4.cell? ⟨SB, 5, none⟩ = _ := HA4.out.one 5
                have x6 : w4.cell? ⟨SB, 6, none⟩ = _ := HA4.out.one 6
                have x7 : w4.cell? ⟨SB, 7, none⟩ = _ := HA4.out.one 7
                have x8 : w4.cell? ⟨SB, 8, none⟩ = _ := HA4.out.one 8
                cases tx with
                | false =>
                  go_wp2_with fail
                  go_ret
                  exact ⟨by first | rfl | (simp [HSL.out]; done) | simp, HX4.out.below⟩
                | true =>
                  go_wp2_with fail
                  refine (HAr.out _ _ HP4.out HX4.out.below).mono ?_
                  rintro e w5 ⟨rfl, hq⟩
                  have HX5 := Hid.mk (HX4.out.keep hq)
                  have HA5 := Hid.mk (HA4.out.keep hq)
                  have HP5 := Hid.mk (PXk.out _ _ _ HP4.out hq)
                  clear hq
                  clear q0 x0 q1 x1 q2 x2 q3 x3 q4 x4 q5 x5 q6 x6 q7 x7 q8 x8
                  have q0 : w5.cell? ⟨w.heap.size + 1, 0, none⟩ = _ := HX5.out.two 0
                  have q1 : w5.cell? ⟨w.heap.size + 1, 1, none⟩ = _ := HX5.out.two 1
                  have q2 : w5.cell? ⟨w.heap.size + 1, 2, none⟩ = _ := HX5.out.two 2
                  have q3 : w5.cell? ⟨w.heap.size + 1, 3, none⟩ = _ := HX5.out.two 3
                  have q4 : w5.cell? ⟨w.heap.size + 1, 4, none⟩ = _ := HX5.out.two 4
                  have q5 : w5.cell? ⟨w.heap.size + 1, 5, none⟩ = _ := HX5.out.two 5
                  have q6 : w5.cell? ⟨w.heap.size + 1, 6, none⟩ = _ := HX5.out.two 6
                  have q7 : w5.cell? ⟨w.heap.size + 1, 7, none⟩ = _ := HX5.out.two 7
                  have q8 : w5.cell? ⟨w.heap.size + 1, 8, none⟩ = _ := HX5.out.two 8
                  have x0 : w5.cell? ⟨SB, 0, none⟩ = _ := HA5.out.one 0
                  have x1 : w5.cell? ⟨SB, 1, none⟩ = _ := HA5.out.one 1
                  have x2 : w5.cell? ⟨SB, 2, none⟩ = _ := HA5.out.one 2
                  have x3 : w5.cell? ⟨SB, 3, none⟩ = _ := HA5.out.one 3
                  have x4 : w5.cell? ⟨SB, 4, none⟩ = _ := HA5.out.one 4
                  have x5 : w5.cell? ⟨SB, 5, none⟩ = _ := HA5.out.one 5
                  have x6 : w5.cell? ⟨SB, 6, none⟩ = _ := HA5.out.one 6
                  have x7 : w5.cell? ⟨SB, 7, none⟩ = _ := HA5.out.one 7
                  have x8 : w5.cell? ⟨SB, 8, none⟩ = _ := HA5.out.one 8
                  cases ar with
                  | false =>
                    go_wp2_with fail
                    go_ret
                    exact ⟨by first | rfl | (simp [HSL.out]; done) | simp, HX5.out.below⟩
                  | true =>
                    go_wp2_with fail
                    refine (HOb.out _ _ HP5.out HX5.out.below).mono ?_
                    rintro e w6 ⟨rfl, hq⟩
                    have HX6 := Hid.mk (HX5.out.keep hq)
                    have HA6 := Hid.mk (HA5.out.keep hq)
                    have HP6 := Hid.mk (PXk.out _ _ _ HP5.out hq)
                    clear hq
                    clear q0 x0 q1 x1 q2 x2 q3 x3 q4 x4 q5 x5 q6 x6 q7 x7 q8 x8
                    have q0 : w6.cell? ⟨w.heap.size + 1, 0, none⟩ = _ := HX6.out.two 0
                    have q1 : w6.cell? ⟨w.heap.size + 1, 1, none⟩ = _ := HX6.out.two 1
                    have q2 : w6.cell? ⟨w.heap.size + 1, 2, none⟩ = _ := HX6.out.two 2
                    have q3 : w6.cell? ⟨w.heap.size + 1, 3, none⟩ = _ := HX6.out.two 3
                    have q4 : w6.cell? ⟨w.heap.size + 1, 4, none⟩ = _ := HX6.out.two 4
                    have q5 : w6.cell? ⟨w.heap.size + 1, 5, none⟩ = _ := HX6.out.two 5
                    have q6 : w6.cell? ⟨w.heap.size + 1, 6, none⟩ = _ := HX6.out.two 6
                    have q7 : w6.cell? ⟨w.heap.size + 1, 7, none⟩ = _ := HX6.out.two 7
                    have q8 : w6.cell? ⟨w.heap.size + 1, 8, none⟩ = _ := HX6.out.two 8
                    have x0 : w6.cell? ⟨SB, 0, none⟩ = _ := HA6.out.one 0
                    have x1 : w6.cell? ⟨SB, 1, none⟩ = _ := HA6.out.one 1
                    have x2 : w6.cell? ⟨SB, 2, none⟩ = _ := HA6.out.one 2
                    have x3 : w6.cell? ⟨SB, 3, none⟩ = _ := HA6.out.one 3
                    have x4 : w6.cell? ⟨SB, 4, none⟩ = _ := HA6.out.one 4
                    have x5 : w6.cell? ⟨SB, 5, none⟩ = _ := HA6.out.one 5
                    have x6 : w6.cell? ⟨SB, 6, none⟩ = _ := HA6.out.one 6
                    have x7 : w6.cell? ⟨SB, 7, none⟩ = _ := HA6.out.one 7
                    have x8 : w6.cell? ⟨SB, 8, none⟩ = _ := HA6.out.one 8
                    go_wp2_with fail
                    go_ret
                    exact ⟨by first | rfl | (simp [HSL.out]; done) | simp, HX6.out.below⟩
        | true =>
          cases td with
          | false =>
            go_wp2_with fail
            go_ret
            exact ⟨by first | rfl | simp, HX2.out.below⟩
          | true =>
            have AQ0 := fun d os => cell_regrown q0 d os
            have AX0 := fun d os => cell_regrown x0 d os
            have AQ1 := fun d os => cell_regrown q1 d os
            have AX1 := fun d os => cell_regrown x1 d os
            have AQ2 := fun d os => cell_regrown q2 d os
            have AX2 := fun d os => cell_regrown x2 d os
            have AQ3 := fun d os => cell_regrown q3 d os
            have AX3 := fun d os => cell_regrown x3 d os
            have AQ4 := fun d os => cell_regrown q4 d os
            have AX4 := fun d os => cell_regrown x4 d os
            have AQ5 := fun d os => cell_regrown q5 d os
            have AX5 := fun d os => cell_regrown x5 d os
            have AQ6 := fun d os => cell_regrown q6 d os
            have AX6 := fun d os => cell_regrown x6 d os
            have AQ7 := fun d os => cell_regrown q7 d os
            have AX7 := fun d os => cell_regrown x7 d os
            have AQ8 := fun d os => cell_regrown q8 d os
            have AX8 := fun d os => cell_regrown x8 d os
            rcases HPS.out with ⟨rfl, rfl⟩ | ⟨p, rfl, rfl⟩
            · have HC := Hid.mk (fun (d : Nat) (os : Array Obj) => HSp.out (.empty, .empty) (.empty, .empty) okS0 okS0 (grow (redrawn W2 d) os))
              go_wp2_with fail
              refine wp_region_quiet_below (by kernel_rfl) (by kernel_rfl) ?_
              repeat (go_big_quiet_step (exact Calls.regrown_of (HC.out _ _)))
              refine wpQuiet_nil ?_
              intro w3 hw'
              have hb9 : Below W2.heap.size W2 w3 := by
                obtain ⟨⟨dq, osq⟩, rfl⟩ := hw'
                exact below_regrown W2 dq osq
              have HX3 := Hid.mk (HX2.out.keep hb9)
              have HA3 := Hid.mk (HA2.out.keep hb9)
              have HP3 := Hid.mk (PXk.out _ _ _ HP2.out hb9)
              clear hw' hb9 AQ0 AX0 AQ1 AX1 AQ2 AX2 AQ3 AX3 AQ4 AX4 AQ5 AX5 AQ6 AX6 AQ7 AX7 AQ8 AX8
              clear q0 x0 q1 x1 q2 x2 q3 x3 q4 x4 q5 x5 q6 x6 q7 x7 q8 x8
              have q0 : w3.cell? ⟨w.heap.size + 1, 0, none⟩ = _ := HX3.out.two 0
              have q1 : w3.cell? ⟨w.heap.size + 1, 1, none⟩ = _ := HX3.out.two 1
              have q2 : w3.cell? ⟨w.heap.size + 1, 2, none⟩ = _ := HX3.out.two 2
              have q3 : w3.cell? ⟨w.heap.size + 1, 3, none⟩ = _ := HX3.out.two 3
              have q4 : w3.cell? ⟨w.heap.size + 1, 4, none⟩ = _ := HX3.out.two 4
              have q5 : w3.cell? ⟨w.heap.size + 1, 5, none⟩ = _ := HX3.out.two 5
              have q6 : w3.cell? ⟨w.heap.size + 1, 6, none⟩ = _ := HX3.out.two 6
              have q7 : w3.cell? ⟨w.heap.size + 1, 7, none⟩ = _ := HX3.out.two 7
              have q8 : w3.cell? ⟨w.heap.size + 1, 8, none⟩ = _ := HX3.out.two 8
              have x0 : w3.cell? ⟨SB, 0, none⟩ = _ := HA3.out.one 0
              have x1 : w3.cell? ⟨SB, 1, none⟩ = _ := HA3.out.one 1
              have x2 : w3.cell? ⟨SB, 2, none⟩ = _ := HA3.out.one 2
              have x3 : w3.cell? ⟨SB, 3, none⟩ = _ := HA3.out.one 3
              have x4 : w3.cell? ⟨SB, 4, none⟩ = _ := HA3.out.one 4
              have x5 : w3.cell? ⟨SB, 5, none⟩ = _ := HA3.out.one 5
              have x6 : w3.cell? ⟨SB, 6, none⟩ = _ := HA3.out.one 6
              have x7 : w3.cell? ⟨SB, 7, none⟩ = _ := HA3.out.one 7
              have x8 : w3.cell? ⟨SB, 8, none⟩ = _ := HA3.out.one 8
              go_wp2_with fail
              refine (HTx.out _ _ HP3.out HX3.out.below).mono ?_
              rintro e w4 ⟨rfl, hq⟩
              have HX4 := Hid.mk (HX3.out.keep hq)
              have HA4 := Hid.mk (HA3.out.keep hq)
              have HP4 := Hid.mk (PXk.out _ _ _ HP3.out hq)
              clear hq
              clear q0 x0 q1 x1 q2 x2 q3 x3 q4 x4 q5 x5 q6 x6 q7 x7 q8 x8
              have q0 : w4.cell? ⟨w.heap.size + 1, 0, none⟩ = _ := HX4.out.two 0
              have q1 : w4.cell? ⟨w.heap.size + 1, 1, none⟩ = _ := HX4.out.two 1
              have q2 : w4.cell? ⟨w.heap.size + 1, 2, none⟩ = _ := HX4.out.two 2
              have q3 : w4.cell? ⟨w.heap.size + 1, 3, none⟩ = _ := HX4.out.two 3
              have q4 : w4.cell? ⟨w.heap.size + 1, 4, none⟩ = _ := HX4.out.two 4
              have q5 : w4.cell? ⟨w.heap.size + 1, 5, none⟩ = _ := HX4.out.two 5
              have q6 : w4.cell? ⟨w.heap.size + 1, 6, none⟩ = _ := HX4.out.two 6
              have q7 : w4.cell? ⟨w.heap.size + 1, 7, none⟩ = _ := HX4.out.two 7
              have q8 : w4.cell? ⟨w.heap.size + 1, 8, none⟩ = _ := HX4.out.two 8
              have x0 : w4.cell? ⟨SB, 0, none⟩ = _ := HA4.out.one 0
              have x1 : w4.cell? ⟨SB, 1, none⟩ = _ := HA4.out.one 1
              have x2 : w4.cell? ⟨SB, 2, none⟩ = _ := HA4.out.one 2
              have x3 : w4.cell? ⟨SB, 3, none⟩ = _ := HA4.out.one 3
              have x4 : w4.cell? ⟨SB, 4, none⟩ = _ := HA4.out.one 4
              have x5 : w4.cell? ⟨SB, 5, none⟩ = _ := HA4.out.one 5
              have x6 : w4.cell? ⟨SB, 6, none⟩ = _ := HA4.out.one 6
              have x7 : w4.cell? ⟨SB, 7, none⟩ = _ := HA4.out.one 7
              have x8 : w4.cell? ⟨SB, 8, none⟩ = _ := HA4.out.one 8
              cases tx with
              | false =>
                go_wp2_with fail
                go_ret
                exact ⟨by first | rfl | simp, HX4.out.below⟩
              | true =>
                go_wp2_with fail
                refine (HAr.out _ _ HP4.out HX4.out.below).mono ?_
                rintro e w5 ⟨rfl, hq⟩
                have HX5 := Hid.mk (HX4.out.keep hq)
                have HA5 := Hid.mk (HA4.out.keep hq)
                have HP5 := Hid.mk (PXk.out _ _ _ HP4.out hq)
                clear hq
                clear q0 x0 q1 x1 q2 x2 q3 x3 q4 x4 q5 x5 q6 x6 q7 x7 q8 x8
                have q0 : w5.cell? ⟨w.heap.size + 1, 0, none⟩ = _ := HX5.out.two 0
                have q1 : w5.cell? ⟨w.heap.size + 1, 1, none⟩ = _ := HX5.out.two 1
                have q2 : w5.cell? ⟨w.heap.size + 1, 2, none⟩ = _ := HX5.out.two 2
                have q3 : w5.cell? ⟨w.heap.size + 1, 3, none⟩ = _ := HX5.out.two 3
                have q4 : w5.cell? ⟨w.heap.size + 1, 4, none⟩ = _ := HX5.out.two 4
                have q5 : w5.cell? ⟨w.heap.size + 1, 5, none⟩ = _ := HX5.out.two 5
                have q6 : w5.cell? ⟨w.heap.size + 1, 6, none⟩ = _ := HX5.out.two 6
                have q7 : w5.cell? ⟨w.heap.size + 1, 7, none⟩ = _ := HX5.out.two 7
                have q8 : w5.cell? ⟨w.heap.size + 1, 8, none⟩ = _ := HX5.out.two 8
                have x0 : w5.cell? ⟨SB, 0, none⟩ = _ := HA5.out.one 0
                have x1 : w5.cell? ⟨SB, 1, none⟩ = _ := HA5.out.one 1
                have x2 : w5.cell? ⟨SB, 2, none⟩ = _ := HA5.out.one 2
                have x3 : w5.cell? ⟨SB, 3, none⟩ = _ := HA5.out.one 3
                have x4 : w5.cell? ⟨SB, 4, none⟩ = _ := HA5.out.one 4
                have x5 : w5.cell? ⟨SB, 5, none⟩ = _ := HA5.out.one 5
                have x6 : w5.cell? ⟨SB, 6, none⟩ = _ := HA5.out.one 6
                have x7 : w5.cell? ⟨SB, 7, none⟩ = _ := HA5.out.one 7
                have x8 : w5.cell? ⟨SB, 8, none⟩ = _ := HA5.out.one 8
                cases ar with
                | false =>
                  go_wp2_with fail
                  go_ret
                  exact ⟨by first | rfl | simp, HX5.out.below⟩
                | true =>
                  go_wp2_with fail
                  refine (HOb.out _ _ HP5.out HX5.out.below).mono ?_
                  rintro e w6 ⟨rfl, hq⟩
                  have HX6 := Hid.mk (HX5.out.keep hq)
                  have HA6 := Hid.mk (HA5.out.keep hq)
                  have HP6 := Hid.mk (PXk.out _ _ _ HP5.out hq)
                  clear hq
                  clear q0 x0 q1 x1 q2 x2 q3 x3 q4 x4 q5 x5 q6 x6 q7 x7 q8 x8
                  have q0 : w6.cell? ⟨w.heap.size + 1, 0, none⟩ = _ := HX6.out.two 0
                  have q1 : w6.cell? ⟨w.heap.size + 1, 1, none⟩ = _ := HX6.out.two 1
                  have q2 : w6.cell? ⟨w.heap.size + 1, 2, none⟩ = _ := HX6.out.two 2
                  have q3 : w6.cell? ⟨w.heap.size + 1, 3, none⟩ = _ := HX6.out.two 3
                  have q4 : w6.cell? ⟨w.heap.size + 1, 4, none⟩ = _ := HX6.out.two 4
                  have q5 : w6.cell? ⟨w.heap.size + 1, 5, none⟩ = _ := HX6.out.two 5
                  have q6 : w6.cell? ⟨w.heap.size + 1, 6, none⟩ = _ := HX6.out.two 6
                  have q7 : w6.cell? ⟨w.heap.size + 1, 7, none⟩ = _ := HX6.out.two 7
                  have q8 : w6.cell? ⟨w.heap.size + 1, 8, none⟩ = _ := HX6.out.two 8
                  have x0 : w6.cell? ⟨SB, 0, none⟩ = _ := HA6.out.one 0
                  have x1 : w6.cell? ⟨SB, 1, none⟩ = _ := HA6.out.one 1
                  have x2 : w6.cell? ⟨SB, 2, none⟩ = _ := HA6.out.one 2
                  have x3 : w6.cell? ⟨SB, 3, none⟩ = _ := HA6.out.one 3
                  have x4 : w6.cell? ⟨SB, 4, none⟩ = _ := HA6.out.one 4
                  have x5 : w6.cell? ⟨SB, 5, none⟩ = _ := HA6.out.one 5
                  have x6 : w6.cell? ⟨SB, 6, none⟩ = _ := HA6.out.one 6
                  have x7 : w6.cell? ⟨SB, 7, none⟩ = _ := HA6.out.one 7
                  have x8 : w6.cell? ⟨SB, 8, none⟩ = _ := HA6.out.one 8
                  go_wp2_with fail
                  go_ret
                  exact ⟨by first | rfl | simp, HX6.out.below⟩
            · rcases HQS.out with ⟨rfl, rfl⟩ | ⟨q, rfl, rfl⟩
              · have HC := Hid.mk (fun (d : Nat) (os : Array Obj) => HSp.out (.empty, .empty) (.empty, .empty) okS0 okS0 (grow (redrawn W2 d) os))
                go_wp2_with fail
                refine wp_region_quiet_below (by kernel_rfl) (by kernel_rfl) ?_
                repeat (go_big_quiet_step (exact Calls.regrown_of (HC.out _ _)))
                refine wpQuiet_nil ?_
                intro w3 hw'
                have hb9 : Below W2.heap.size W2 w3 := by
                  obtain ⟨⟨dq, osq⟩, rfl⟩ := hw'
                  exact below_regrown W2 dq osq
                have HX3 := Hid.mk (HX2.out.keep hb9)
                have HA3 := Hid.mk (HA2.out.keep hb9)
                have HP3 := Hid.mk (PXk.out _ _ _ HP2.out hb9)
                clear hw' hb9 AQ0 AX0 AQ1 AX1 AQ2 AX2 AQ3 AX3 AQ4 AX4 AQ5 AX5 AQ6 AX6 AQ7 AX7 AQ8 AX8
                clear q0 x0 q1 x1 q2 x2 q3 x3 q4 x4 q5 x5 q6 x6 q7 x7 q8 x8
                have q0 : w3.cell? ⟨w.heap.size + 1, 0, none⟩ = _ := HX3.out.two 0
                have q1 : w3.cell? ⟨w.heap.size + 1, 1, none⟩ = _ := HX3.out.two 1
                have q2 : w3.cell? ⟨w.heap.size + 1, 2, none⟩ = _ := HX3.out.two 2
                have q3 : w3.cell? ⟨w.heap.size + 1, 3, none⟩ = _ := HX3.out.two 3
                have q4 : w3.cell? ⟨w.heap.size + 1, 4, none⟩ = _ := HX3.out.two 4
                have q5 : w3.cell? ⟨w.heap.size + 1, 5, none⟩ = _ := HX3.out.two 5
                have q6 : w3.cell? ⟨w.heap.size + 1, 6, none⟩ = _ := HX3.out.two 6
                have q7 : w3.cell? ⟨w.heap.size + 1, 7, none⟩ = _ := HX3.out.two 7
                have q8 : w3.cell? ⟨w.heap.size + 1, 8, none⟩ = _ := HX3.out.two 8
                have x0 : w3.cell? ⟨SB, 0, none⟩ = _ := HA3.out.one 0
                have x1 : w3.cell? ⟨SB, 1, none⟩ = _ := HA3.out.one 1
                have x2 : w3.cell? ⟨SB, 2, none⟩ = _ := HA3.out.one 2
                have x3 : w3.cell? ⟨SB, 3, none⟩ = _ := HA3.out.one 3
                have x4 : w3.cell? ⟨SB, 4, none⟩ = _ := HA3.out.one 4
                have x5 : w3.cell? ⟨SB, 5, none⟩ = _ := HA3.out.one 5
                have x6 : w3.cell? ⟨SB, 6, none⟩ = _ := HA3.out.one 6
                have x7 : w3.cell? ⟨SB, 7, none⟩ = _ := HA3.out.one 7
                have x8 : w3.cell? ⟨SB, 8, none⟩ = _ := HA3.out.one 8
                go_wp2_with fail
                go_ret
                exact ⟨by first | rfl | simp, HX3.out.below⟩
              · obtain ⟨xb, xoff, hxo, lxb, hxr⟩ := HSX.out.row (by simp)
                obtain ⟨yb, yoff, hyo, lyb, hyr⟩ := HSY.out.row (by simp)
                subst hxo hyo
                have k1 := hxr 0 (by simp)
                have k2 := hyr 0 (by simp)
                simp only [List.getElem_cons_zero, Nat.zero_mul, Nat.add_zero] at k1 k2
                obtain ⟨m1, m2⟩ := k1
                obtain ⟨m3, m4⟩ := k2
                have M1 := fun d os => cell_regrown m1 d os
                have M2 := fun d os => cell_regrown m2 d os
                have M3 := fun d os => cell_regrown m3 d os
                have M4 := fun d os => cell_regrown m4 d os
                have HC := Hid.mk (fun (d : Nat) (os : Array Obj) => HSp.out p q (HOp.out p (List.mem_singleton.2 rfl)) (HOq.out q (List.mem_singleton.2 rfl)) (grow (redrawn W2 d) os))
                obtain ⟨sr, hsr⟩ : ∃ sr, inS p.1 p.2 q.1 q.2 = sr := ⟨_, rfl⟩
                have hsl : spL [p] [q] = sr := hsr
                have HSL := Hid.mk hsl
                rw [hsr] at HC
                clear hxr hyr hsr hsl
                cases sr with
                | false =>
                  go_wp2_with fail
                  refine wp_region_quiet_below (by kernel_rfl) (by kernel_rfl) ?_
                  repeat (go_big_quiet_step (exact Calls.regrown_of (HC.out _ _)))
                  refine wpQuiet_nil ?_
                  intro w3 hw'
                  have hb9 : Below W2.heap.size W2 w3 := by
                    obtain ⟨⟨dq, osq⟩, rfl⟩ := hw'
                    exact below_regrown W2 dq osq
                  have HX3 := Hid.mk (HX2.out.keep hb9)
                  have HA3 := Hid.mk (HA2.out.keep hb9)
                  have HP3 := Hid.mk (PXk.out _ _ _ HP2.out hb9)
                  clear hw' hb9 AQ0 AX0 AQ1 AX1 AQ2 AX2 AQ3 AX3 AQ4 AX4 AQ5 AX5 AQ6 AX6 AQ7 AX7 AQ8 AX8 M1 M2 M3 M4 m1 m2 m3 m4
                  clear q0 x0 q1 x1 q2 x2 q3 x3 q4 x4 q5 x5 q6 x6 q7 x7 q8 x8
                  have q0 : w3.cell? ⟨w.heap.size + 1, 0, none⟩ = _ := HX3.out.two 0
                  have q1 : w3.cell? ⟨w.heap.size + 1, 1, none⟩ = _ := HX3.out.two 1
                  have q2 : w3.cell? ⟨w.heap.size + 1, 2, none⟩ = _ := HX3.out.two 2
                  have q3 : w3.cell? ⟨w.heap.size + 1, 3, none⟩ = _ := HX3.out.two 3
                  have q4 : w3.cell? ⟨w.heap.size + 1, 4, none⟩ = _ := HX3.out.two 4
                  have q5 : w3.cell? ⟨w.heap.size + 1, 5, none⟩ = _ := HX3.out.two 5
                  have q6 : w3.cell? ⟨w.heap.size + 1, 6, none⟩ = _ := HX3.out.two 6
                  have q7 : w3.cell? ⟨w.heap.size + 1, 7, none⟩ = _ := HX3.out.two 7
                  have q8 : w3.cell? ⟨w.heap.size + 1, 8, none⟩ = _ := HX3.out.two 8
                  have x0 : w3.cell? ⟨SB, 0, none⟩ = _ := HA3.out.one 0
                  have x1 : w3.cell? ⟨SB, 1, none⟩ = _ := HA3.out.one 1
                  have x2 : w3.cell? ⟨SB, 2, none⟩ = _ := HA3.out.one 2
                  have x3 : w3.cell? ⟨SB, 3, none⟩ = _ := HA3.out.one 3
                  have x4 : w3.cell? ⟨SB, 4, none⟩ = _ := HA3.out.one 4
                  have x5 : w3.cell? ⟨SB, 5, none⟩ = _ := HA3.out.one 5
                  have x6 : w3.cell? ⟨SB, 6, none⟩ = _ := HA3.out.one 6
                  have x7 : w3.cell? ⟨SB, 7, none⟩ = _ := HA3.out.one 7
                  have x8 : w3.cell? ⟨SB, 8, none⟩ = _ := HA3.out.one 8
                  go_wp2_with fail
                  go_ret
                  exact ⟨by first | rfl | (simp [HSL.out]; done) | simp, HX3.out.below⟩
                | true =>
                  go_wp2_with fail
                  refine wp_region_quiet_below (by kernel_rfl) (by kernel_rfl) ?_
                  repeat (go_big_quiet_step (exact Calls.regrown_of (HC.out _ _)))
                  refine wpQuiet_nil ?_
                  intro w3 hw'
                  have hb9 : Below W2.heap.size W2 w3 := by
                    obtain ⟨⟨dq, osq⟩, rfl⟩ := hw'
                    exact below_regrown W2 dq osq
                  have HX3 := Hid.mk (HX2.out.keep hb9)
                  have HA3 := Hid.mk (HA2.out.keep hb9)
                  have HP3 := Hid.mk (PXk.out _ _ _ HP2.out hb9)
                  clear hw' hb9 AQ0 AX0 AQ1 AX1 AQ2 AX2 AQ3 AX3 AQ4 AX4 AQ5 AX5 AQ6 AX6 AQ7 AX7 AQ8 AX8 M1 M2 M3 M4 m1 m2 m3 m4
                  clear q0 x0 q1 x1 q2 x2 q3 x3 q4 x4 q5 x5 q6 x6 q7 x7 q8 x8
                  have q0 : w3.cell? ⟨w.heap.size + 1, 0, none⟩ = _ := HX3.out.two 0
                  have q1 : w3.cell? ⟨w.heap.size + 1, 1, none⟩ = _ := HX3.out.two 1
                  have q2 : w3.cell? ⟨w.heap.size + 1, 2, none⟩ = _ := HX3.out.two 2
                  have q3 : w3.cell? ⟨w.heap.size + 1, 3, none⟩ = _ := HX3.out.two 3
                  have q4 : w3.cell? ⟨w.heap.size + 1, 4, none⟩ = _ := HX3.out.two 4
                  have q5 : w3.cell? ⟨w.heap.size + 1, 5, none⟩ = _ := HX3.out.two 5
                  have q6 : w3.cell? ⟨w.heap.size + 1, 6, none⟩ = _ := HX3.out.two 6
                  have q7 : w3.cell? ⟨w.heap.size + 1, 7, none⟩ = _ := HX3.out.two 7
                  have q8 : w3.cell? ⟨w.heap.size + 1, 8, none⟩ = _ := HX3.out.two 8
                  have x0 : w3.cell? ⟨SB, 0, none⟩ = _ := HA3.out.one 0
                  have x1 : w3.cell? ⟨SB, 1, none⟩ = _ := HA3.out.one 1
                  have x2 : w3.cell? ⟨SB, 2, none⟩ = _ := HA3.out.one 2
                  have x3 : w3.cell? ⟨SB, 3, none⟩ = _ := HA3.out.one 3
                  have x4 : w3.cell? ⟨SB, 4, none⟩ = _ := HA3.out.one 4
                  have x5 : w3.cell? ⟨SB, 5, none⟩ = _ := HA3.out.one 5
                  have x6 : w3.cell? ⟨SB, 6, none⟩ = _ := HA3.out.one 6
                  have x7 : w3.cell? ⟨SB, 7, none⟩ = _ := HA3.out.one 7
                  have x8 : w3.cell? ⟨SB, 8, none⟩ = _ := HA3.out.one 8
                  go_wp2_with fail
                  refine (HTx.out _ _ HP3.out HX3.out.below).mono ?_
                  rintro e w4 ⟨rfl, hq⟩
                  have HX4 := Hid.mk (HX3.out.keep hq)
                  have HA4 := Hid.mk (HA3.out.keep hq)
                  have HP4 := Hid.mk (PXk.out _ _ _ HP3.out hq)
                  clear hq
                  clear q0 x0 q1 x1 q2 x2 q3 x3 q4 x4 q5 x5 q6 x6 q7 x7 q8 x8
                  have q0 : w4.cell? ⟨w.heap.size + 1, 0, none⟩ = _ := HX4.out.two 0
                  have q1 : w4.cell? ⟨w.heap.size + 1, 1, none⟩ = _ := HX4.out.two 1
                  have q2 : w4.cell? ⟨w.heap.size + 1, 2, none⟩ = _ := HX4.out.two 2
                  have q3 : w4.cell? ⟨w.heap.size + 1, 3, none⟩ = _ := HX4.out.two 3
                  have q4 : w4.cell? ⟨w.heap.size + 1, 4, none⟩ = _ := HX4.out.two 4
                  have q5 : w4.cell? ⟨w.heap.size + 1, 5, none⟩ = _ := HX4.out.two 5
                  have q6 : w4.cell? ⟨w.heap.size + 1, 6, none⟩ = _ := HX4.out.two 6
                  have q7 : w4.cell? ⟨w.heap.size + 1, 7, none⟩ = _ := HX4.out.two 7
                  have q8 : w4.cell? ⟨w.heap.size + 1, 8, none⟩ = _ := HX4.out.two 8
                  have x0 : w4.cell? ⟨SB, 0, none⟩ = _ := HA4.out.one 0
                  have x1 : w4.cell? ⟨SB, 1, none⟩ = _ := HA4.out.one 1
                  have x2 : w4.cell? ⟨SB, 2, none⟩ = _ := HA4.out.one 2
                  have x3 : w4.cell? ⟨SB, 3, none⟩ = _ := HA4.out.one 3
                  have x4 : w4.cell? ⟨SB, 4, none⟩ = _ := HA4.out.one 4
                  have x5 : w4.cell? ⟨SB, 5, none⟩ = _ := HA4.out.one 5
                  have x6 : w4.cell? ⟨SB, 6, none⟩ = _ := HA4.out.one 6
                  have x7 : w4.cell? ⟨SB, 7, none⟩ = _ := HA4.out.one 7
                  have x8 : w4.cell? ⟨SB, 8, none⟩ = _ := HA4.out.one 8
                  cases tx with
                  | false =>
                    go_wp2_with fail
                    go_ret
                    exact ⟨by first | rfl | (simp [HSL.out]; done) | simp, HX4.out.below⟩
                  | true =>
                    go_wp2_with fail
                    refine (HAr.out _ _ HP4.out HX4.out.below).mono ?_
                    rintro e w5 ⟨rfl, hq⟩
                    have HX5 := Hid.mk (HX4.out.keep hq)
                    have HA5 := Hid.mk (HA4.out.keep hq)
                    have HP5 := Hid.mk (PXk.out _ _ _ HP4.out hq)
                    clear hq
                    clear q0 x0 q1 x1 q2 x2 q3 x3 q4 x4 q5 x5 q6 x6 q7 x7 q8 x8
                    have q0 : w5.cell? ⟨w.heap.size + 1, 0, none⟩ = _ := HX5.out.two 0
                    have q1 : w5.cell? ⟨w.heap.size + 1, 1, none⟩ = _ := HX5.out.two 1
                    have q2 : w5.cell? ⟨w.heap.size + 1, 2, none⟩ = _ := HX5.out.two 2
                    have q3 : w5.cell? ⟨w.heap.size + 1, 3, none⟩ = _ := HX5.out.two 3
                    have q4 : w5.cell? ⟨w.heap.size + 1, 4, none⟩ = _ := HX5.out.two 4
                    have q5 : w5.cell? ⟨w.heap.size + 1, 5, none⟩ = _ := HX5.out.two 5
                    have q6 : w5.cell? ⟨w.heap.size + 1, 6, none⟩ = _ := HX5.out.two 6
                    have q7 : w5.cell? ⟨w.heap.size + 1, 7, none⟩ = _ := HX5.out.two 7
                    have q8 : w5.cell? ⟨w.heap.size + 1, 8, none⟩ = _ := HX5.out.two 8
                    have x0 : w5.cell? ⟨SB, 0, none⟩ = _ := HA5.out.one 0
                    have x1 : w5.cell? ⟨SB, 1, none⟩ = _ := HA5.out.one 1
                    have x2 : w5.cell? ⟨SB, 2, none⟩ = _ := HA5.out.one 2
                    have x3 : w5.cell? ⟨SB, 3, none⟩ = _ := HA5.out.one 3
                    have x4 : w5.cell? ⟨SB, 4, none⟩ = _ := HA5.out.one 4
                    have x5 : w5.cell? ⟨SB, 5, none⟩ = _ := HA5.out.one 5
                    have x6 : w5.cell? ⟨SB, 6, none⟩ = _ := HA5.out.one 6
                    have x7 : w5.cell? ⟨SB, 7, none⟩ = _ := HA5.out.one 7
                    have x8 : w5.cell? ⟨SB, 8, none⟩ = _ := HA5.out.one 8
                    cases ar with
                    | false =>
                      go_wp2_with fail
                      go_ret
                      exact ⟨by first | rfl | (simp [HSL.out]; done) | simp, HX5.out.below⟩
                    | true =>
                      go_wp2_with fail
                      refine (HOb.out _ _ HP5.out HX5.out.below).mono ?_
                      rintro e w6 ⟨rfl, hq⟩
                      have HX6 := Hid.mk (HX5.out.keep hq)
                      have HA6 := Hid.mk (HA5.out.keep hq)
                      have HP6 := Hid.mk (PXk.out _ _ _ HP5.out hq)
                      clear hq
                      clear q0 x0 q1 x1 q2 x2 q3 x3 q4 x4 q5 x5 q6 x6 q7 x7 q8 x8
                      have q0 : w6.cell? ⟨w.heap.size + 1, 0, none⟩ = _ := HX6.out.two 0
                      have q1 : w6.cell? ⟨w.heap.size + 1, 1, none⟩ = _ := HX6.out.two 1
                      have q2 : w6.cell? ⟨w.heap.size + 1, 2, none⟩ = _ := HX6.out.two 2
                      have q3 : w6.cell? ⟨w.heap.size + 1, 3, none⟩ = _ := HX6.out.two 3
                      have q4 : w6.cell? ⟨w.heap.size + 1, 4, none⟩ = _ := HX6.out.two 4
                      have q5 : w6.cell? ⟨w.heap.size + 1, 5, none⟩ = _ := HX6.out.two 5
                      have q6 : w6.cell? ⟨w.heap.size + 1, 6, none⟩ = _ := HX6.out.two 6
                      have q7 : w6.cell? ⟨w.heap.size + 1, 7, none⟩ = _ := HX6.out.two 7
                      have q8 : w6.cell? ⟨w.heap.size + 1, 8, none⟩ = _ := HX6.out.two 8
                      have x0 : w6.cell? ⟨SB, 0, none⟩ = _ := HA6.out.one 0
                      have x1 : w6.cell? ⟨SB, 1, none⟩ = _ := HA6.out.one 1
                      have x2 : w6.cell? ⟨SB, 2, none⟩ = _ := HA6.out.one 2
                      have x3 : w6.cell? ⟨SB, 3, none⟩ = _ := HA6.out.one 3
                      have x4 : w6.cell? ⟨SB, 4, none⟩ = _ := HA6.out.one 4
                      have x5 : w6.cell? ⟨SB, 5, none⟩ = _ := HA6.out.one 5
                      have x6 : w6.cell? ⟨SB, 6, none⟩ = _ := HA6.out.one 6
                      have x7 : w6.cell? ⟨SB, 7, none⟩ = _ := HA6.out.one 7
                      have x8 : w6.cell? ⟨SB, 8, none⟩ = _ := HA6.out.one 8
                      go_wp2_with fail
                      go_ret
                      exact ⟨by first | rfl | (simp [HSL.out]; done) | simp, HX6.out.below⟩
  | true =>
    cases tb with
    | false =>
      go_wp2_with fail
      go_ret
      exact ⟨by first | rfl | simp, HX2.out.below⟩
    | true =>
      cases xf with
      | false =>
        cases xt with
        | false =>
          have AQ0 := fun d os => cell_regrown q0 d os
          have AX0 := fun d os => cell_regrown x0 d os
          have AQ1 := fun d os => cell_regrown q1 d os
          have AX1 := fun d os => cell_regrown x1 d os
          have AQ2 := fun d os => cell_regrown q2 d os
          have AX2 := fun d os => cell_regrown x2 d os
          have AQ3 := fun d os => cell_regrown q3 d os
          have AX3 := fun d os => cell_regrown x3 d os
          have AQ4 := fun d os => cell_regrown q4 d os
          have AX4 := fun d os => cell_regrown x4 d os
          have AQ5 := fun d os => cell_regrown q5 d os
          have AX5 := fun d os => cell_regrown x5 d os
          have AQ6 := fun d os => cell_regrown q6 d os
          have AX6 := fun d os => cell_regrown x6 d os
          have AQ7 := fun d os => cell_regrown q7 d os
          have AX7 := fun d os => cell_regrown x7 d os
          have AQ8 := fun d os => cell_regrown q8 d os
          have AX8 := fun d os => cell_regrown x8 d os
          rcases HPS.out with ⟨rfl, rfl⟩ | ⟨p, rfl, rfl⟩
          · have HC := Hid.mk (fun (d : Nat) (os : Array Obj) => HSp.out (.empty, .empty) (.empty, .empty) okS0 okS0 (grow (redrawn W2 d) os))
            go_wp2_with fail
            refine wp_region_quiet_below (by kernel_rfl) (by kernel_rfl) ?_
            repeat (go_big_quiet_step (exact Calls.regrown_of (HC.out _ _)))
            refine wpQuiet_nil ?_
            intro w3 hw'
            have hb9 : Below W2.heap.size W2 w3 := by
              obtain ⟨⟨dq, osq⟩, rfl⟩ := hw'
              exact below_regrown W2 dq osq
            have HX3 := Hid.mk (HX2.out.keep hb9)
            have HA3 := Hid.mk (HA2.out.keep hb9)
            have HP3 := Hid.mk (PXk.out _ _ _ HP2.out hb9)
            clear hw' hb9 AQ0 AX0 AQ1 AX1 AQ2 AX2 AQ3 AX3 AQ4 AX4 AQ5 AX5 AQ6 AX6 AQ7 AX7 AQ8 AX8
            clear q0 x0 q1 x1 q2 x2 q3 x3 q4 x4 q5 x5 q6 x6 q7 x7 q8 x8
            have q0 : w3.cell? ⟨w.heap.size + 1, 0, none⟩ = _ := HX3.out.two 0
            have q1 : w3.cell? ⟨w.heap.size + 1, 1, none⟩ = _ := HX3.out.two 1
            have q2 : w3.cell? ⟨w.heap.size + 1, 2, none⟩ = _ := HX3.out.two 2
            have q3 : w3.cell? ⟨w.heap.size + 1, 3, none⟩ = _ := HX3.out.two 3
            have q4 : w3.cell? ⟨w.heap.size + 1, 4, none⟩ = _ := HX3.out.two 4
            have q5 : w3.cell? ⟨w.heap.size + 1, 5, none⟩ = _ := HX3.out.two 5
            have q6 : w3.cell? ⟨w.heap.size + 1, 6, none⟩ = _ := HX3.out.two 6
            have q7 : w3.cell? ⟨w.heap.size + 1, 7, none⟩ = _ := HX3.out.two 7
            have q8 : w3.cell? ⟨w.heap.size + 1, 8, none⟩ = _ := HX3.out.two 8
            have x0 : w3.cell? ⟨SB, 0, none⟩ = _ := HA3.out.one 0
            have x1 : w3.cell? ⟨SB, 1, none⟩ = _ := HA3.out.one 1
            have x2 : w3.cell? ⟨SB, 2, none⟩ = _ := HA3.out.one 2
            have x3 : w3.cell? ⟨SB, 3, none⟩ = _ := HA3.out.one 3
            have x4 : w3.cell? ⟨SB, 4, none⟩ = _ := HA3.out.one 4
            have x5 : w3.cell? ⟨SB, 5, none⟩ = _ := HA3.out.one 5
            have x6 : w3.cell? ⟨SB, 6, none⟩ = _ := HA3.out.one 6
            have x7 : w3.cell? ⟨SB, 7, none⟩ = _ := HA3.out.one 7
            have x8 : w3.cell? ⟨SB, 8, none⟩ = _ := HA3.out.one 8
            go_wp2_with fail
            refine (HTx.out _ _ HP3.out HX3.out.below).mono ?_
            rintro e w4 ⟨rfl, hq⟩
            have HX4 := Hid.mk (HX3.out.keep hq)
            have HA4 := Hid.mk (HA3.out.keep hq)
            have HP4 := Hid.mk (PXk.out _ _ _ HP3.out hq)
            clear hq
            clear q0 x0 q1 x1 q2 x2 q3 x3 q4 x4 q5 x5 q6 x6 q7 x7 q8 x8
            have q0 : w4.cell? ⟨w.heap.size + 1, 0, none⟩ = _ := HX4.out.two 0
            have q1 : w4.cell? ⟨w.heap.size + 1, 1, none⟩ = _ := HX4.out.two 1
            have q2 : w4.cell? ⟨w.heap.size + 1, 2, none⟩ = _ := HX4.out.two 2
            have q3 : w4.cell? ⟨w.heap.size + 1, 3, none⟩ = _ := HX4.out.two 3
            have q4 : w4.cell? ⟨w.heap.size + 1, 4, none⟩ = _ := HX4.out.two 4
            have q5 : w4.cell? ⟨w.heap.size + 1, 5, none⟩ = _ := HX4.out.two 5
            have q6 : w4.cell? ⟨w.heap.size + 1, 6, none⟩ = _ := HX4.out.two 6
            have q7 : w4.cell? ⟨w.heap.size + 1, 7, none⟩ = _ := HX4.out.two 7
            have q8 : w4.cell? ⟨w.heap.size + 1, 8, none⟩ = _ := HX4.out.two 8
            have x0 : w4.cell? ⟨SB, 0, none⟩ = _ := HA4.out.one 0
            have x1 : w4.cell? ⟨SB, 1, none⟩ = _ := HA4.out.one 1
            have x2 : w4.cell? ⟨SB, 2, none⟩ = _ := HA4.out.one 2
            have x3 : w4.cell? ⟨SB, 3, none⟩ = _ := HA4.out.one 3
            have x4 : w4.cell? ⟨SB, 4, none⟩ = _ := HA4.out.one 4
            have x5 : w4.cell? ⟨SB, 5, none⟩ = _ := HA4.out.one 5
            have x6 : w4.cell? ⟨SB, 6, none⟩ = _ := HA4.out.one 6
            have x7 : w4.cell? ⟨SB, 7, none⟩ = _ := HA4.out.one 7
            have x8 : w4.cell? ⟨SB, 8, none⟩ = _ := HA4.out.one 8
            cases tx with
            | false =>
              go_wp2_with fail
              go_ret
              exact ⟨by first | rfl | simp, HX4.out.below⟩
            | true =>
              go_wp2_with fail
              refine (HAr.out _ _ HP4.out HX4.out.below).mono ?_
              rintro e w5 ⟨rfl, hq⟩
              have HX5 := Hid.mk (HX4.out.keep hq)
              have HA5 := Hid.mk (HA4.out.keep hq)
              have HP5 := Hid.mk (PXk.out _ _ _ HP4.out hq)
              clear hq
              clear q0 x0 q1 x1 q2 x2 q3 x3 q4 x4 q5 x5 q6 x6 q7 x7 q8 x8
              have q0 : w5.cell? ⟨w.heap.size + 1, 0, none⟩ = _ := HX5.out.two 0
              have q1 : w5.cell? ⟨w.heap.size + 1, 1, none⟩ = _ := HX5.out.two 1
              have q2 : w5.cell? ⟨w.heap.size + 1, 2, none⟩ = _ := HX5.out.two 2
              have q3 : w5.cell? ⟨w.heap.size + 1, 3, none⟩ = _ := HX5.out.two 3
              have q4 : w5.cell? ⟨w.heap.size + 1, 4, none⟩ = _ := HX5.out.two 4
              have q5 : w5.cell? ⟨w.heap.size + 1, 5, none⟩ = _ := HX5.out.two 5
              have q6 : w5.cell? ⟨w.heap.size + 1, 6, none⟩ = _ := HX5.out.two 6
              have q7 : w5.cell? ⟨w.heap.size + 1, 7, none⟩ = _ := HX5.out.two 7
              have q8 : w5.cell? ⟨w.heap.size + 1, 8, none⟩ = _ := HX5.out.two 8
              have x0 : w5.cell? ⟨SB, 0, none⟩ = _ := HA5.out.one 0
              have x1 : w5.cell? ⟨SB, 1, none⟩ = _ := HA5.out.one 1
              have x2 : w5.cell? ⟨SB, 2, none⟩ = _ := HA5.out.one 2
              have x3 : w5.cell? ⟨SB, 3, none⟩ = _ := HA5.out.one 3
              have x4 : w5.cell? ⟨SB, 4, none⟩ = _ := HA5.out.one 4
              have x5 : w5.cell? ⟨SB, 5, none⟩ = _ := HA5.out.one 5
              have x6 : w5.cell? ⟨SB, 6, none⟩ = _ := HA5.out.one 6
              have x7 : w5.cell? ⟨SB, 7, none⟩ = _ := HA5.out.one 7
              have x8 : w5.cell? ⟨SB, 8, none⟩ = _ := HA5.out.one 8
              cases ar with
              | false =>
                go_wp2_with fail
                go_ret
                exact ⟨by first | rfl | simp, HX5.out.below⟩
              | true =>
                go_wp2_with fail
                refine (HOb.out _ _ HP5.out HX5.out.below).mono ?_
                rintro e w6 ⟨rfl, hq⟩
                have HX6 := Hid.mk (HX5.out.keep hq)
                have HA6 := Hid.mk (HA5.out.keep hq)
                have HP6 := Hid.mk (PXk.out _ _ _ HP5.out hq)
                clear hq
                clear q0 x0 q1 x1 q2 x2 q3 x3 q4 x4 q5 x5 q6 x6 q7 x7 q8 x8
                have q0 : w6.cell? ⟨w.heap.size + 1, 0, none⟩ = _ := HX6.out.two 0
                have q1 : w6.cell? ⟨w.heap.size + 1, 1, none⟩ = _ := HX6.out.two 1
                have q2 : w6.cell? ⟨w.heap.size + 1, 2, none⟩ = _ := HX6.out.two 2
                have q3 : w6.cell? ⟨w.heap.size + 1, 3, none⟩ = _ := HX6.out.two 3
                have q4 : w6.cell? ⟨w.heap.size + 1, 4, none⟩ = _ := HX6.out.two 4
                have q5 : w6.cell? ⟨w.heap.size + 1, 5, none⟩ = _ := HX6.out.two 5
                have q6 : w6.cell? ⟨w.heap.size + 1, 6, none⟩ = _ := HX6.out.two 6
                have q7 : w6.cell? ⟨w.heap.size + 1, 7, none⟩ = _ := HX6.out.two 7
                have q8 : w6.cell? ⟨w.heap.size + 1, 8, none⟩ = _ := HX6.out.two 8
                have x0 : w6.cell? ⟨SB, 0, none⟩ = _ := HA6.out.one 0
                have x1 : w6.cell? ⟨SB, 1, none⟩ = _ := HA6.out.one 1
                have x2 : w6.cell? ⟨SB, 2, none⟩ = _ := HA6.out.one 2
                have x3 : w6.cell? ⟨SB, 3, none⟩ = _ := HA6.out.one 3
                have x4 : w6.cell? ⟨SB, 4, none⟩ = _ := HA6.out.one 4
                have x5 : w6.cell? ⟨SB, 5, none⟩ = _ := HA6.out.one 5
                have x6 : w6.cell? ⟨SB, 6, none⟩ = _ := HA6.out.one 6
                have x7 : w6.cell? ⟨SB, 7, none⟩ = _ := HA6.out.one 7
                have x8 : w6.cell? ⟨SB, 8, none⟩ = _ := HA6.out.one 8
                go_wp2_with fail
                go_ret
                exact ⟨by first | rfl | simp, HX6.out.below⟩
          · rcases HQS.out with ⟨rfl, rfl⟩ | ⟨q, rfl, rfl⟩
            · have HC := Hid.mk (fun (d : Nat) (os : Array Obj) => HSp.out (.empty, .empty) (.empty, .empty) okS0 okS0 (grow (redrawn W2 d) os))
              go_wp2_with fail
              refine wp_region_quiet_below (by kernel_rfl) (by kernel_rfl) ?_
              repeat (go_big_quiet_step (exact Calls.regrown_of (HC.out _ _)))
              refine wpQuiet_nil ?_
              intro w3 hw'
              have hb9 : Below W2.heap.size W2 w3 := by
                obtain ⟨⟨dq, osq⟩, rfl⟩ := hw'
                exact below_regrown W2 dq osq
              have HX3 := Hid.mk (HX2.out.keep hb9)
              have HA3 := Hid.mk (HA2.out.keep hb9)
              have HP3 := Hid.mk (PXk.out _ _ _ HP2.out hb9)
              clear hw' hb9 AQ0 AX0 AQ1 AX1 AQ2 AX2 AQ3 AX3 AQ4 AX4 AQ5 AX5 AQ6 AX6 AQ7 AX7 AQ8 AX8
              clear q0 x0 q1 x1 q2 x2 q3 x3 q4 x4 q5 x5 q6 x6 q7 x7 q8 x8
              have q0 : w3.cell? ⟨w.heap.size + 1, 0, none⟩ = _ := HX3.out.two 0
              have q1 : w3.cell? ⟨w.heap.size + 1, 1, none⟩ = _ := HX3.out.two 1
              have q2 : w3.cell? ⟨w.heap.size + 1, 2, none⟩ = _ := HX3.out.two 2
              have q3 : w3.cell? ⟨w.heap.size + 1, 3, none⟩ = _ := HX3.out.two 3
              have q4 : w3.cell? ⟨w.heap.size + 1, 4, none⟩ = _ := HX3.out.two 4
              have q5 : w3.cell? ⟨w.heap.size + 1, 5, none⟩ = _ := HX3.out.two 5
              have q6 : w3.cell? ⟨w.heap.size + 1, 6, none⟩ = _ := HX3.out.two 6
              have q7 : w3.cell? ⟨w.heap.size + 1, 7, none⟩ = _ := HX3.out.two 7
              have q8 : w3.cell? ⟨w.heap.size + 1, 8, none⟩ = _ := HX3.out.two 8
              have x0 : w3.cell? ⟨SB, 0, none⟩ = _ := HA3.out.one 0
              have x1 : w3.cell? ⟨SB, 1, none⟩ = _ := HA3.out.one 1
              have x2 : w3.cell? ⟨SB, 2, none⟩ = _ := HA3.out.one 2
              have x3 : w3.cell? ⟨SB, 3, none⟩ = _ := HA3.out.one 3
              have x4 : w3.cell? ⟨SB, 4, none⟩ = _ := HA3.out.one 4
              have x5 : w3.cell? ⟨SB, 5, none⟩ = _ := HA3.out.one 5
              have x6 : w3.cell? ⟨SB, 6, none⟩ = _ := HA3.out.one 6
              have x7 : w3.cell? ⟨SB, 7, none⟩ = _ := HA3.out.one 7
              have x8 : w3.cell? ⟨SB, 8, none⟩ = _ := HA3.out.one 8
              go_wp2_with fail
              go_ret
              exact ⟨by first | rfl | simp, HX3.out.below⟩
            · obtain ⟨xb, xoff, hxo, lxb, hxr⟩ := HSX.out.row (by simp)
              obtain ⟨yb, yoff, hyo, lyb, hyr⟩ := HSY.out.row (by simp)
              subst hxo hyo
              have k1 := hxr 0 (by simp)
              have k2 := hyr 0 (by simp)
              simp only [List.getElem_cons_zero, Nat.zero_mul, Nat.add_zero] at k1 k2
              obtain ⟨m1, m2⟩ := k1
              obtain ⟨m3, m4⟩ := k2
              have M1 := fun d os => cell_regrown m1 d os
              have M2 := fun d os => cell_regrown m2 d os
              have M3 := fun d os => cell_regrown m3 d os
              have M4 := fun d os => cell_regrown m4 d os
              have HC := Hid.mk (fun (d : Nat) (os : Array Obj) => HSp.out p q (HOp.out p (List.mem_singleton.2 rfl)) (HOq.out q (List.mem_singleton.2 rfl)) (grow (redrawn W2 d) os))
              obtain ⟨sr, hsr⟩ : ∃ sr, inS p.1 p.2 q.1 q.2 = sr := ⟨_, rfl⟩
              have hsl : spL [p] [q] = sr := hsr
              have HSL := Hid.mk hsl
              rw [hsr] at HC
              clear hxr hyr hsr hsl
              cases sr with
              | false =>
                go_wp2_with fail
                refine wp_region_quiet_below (by kernel_rfl) (by kernel_rfl) ?_
                repeat (go_big_quiet_step (exact Calls.regrown_of (HC.out _ _)))
                refine wpQuiet_nil ?_
                intro w3 hw'
                have hb9 : Below W2.heap.size W2 w3 := by
                  obtain ⟨⟨dq, osq⟩, rfl⟩ := hw'
                  exact below_regrown W2 dq osq
                have HX3 := Hid.mk (HX2.out.keep hb9)
                have HA3 := Hid.mk (HA2.out.keep hb9)
                have HP3 := Hid.mk (PXk.out _ _ _ HP2.out hb9)
                clear hw' hb9 AQ0 AX0 AQ1 AX1 AQ2 AX2 AQ3 AX3 AQ4 AX4 AQ5 AX5 AQ6 AX6 AQ7 AX7 AQ8 AX8 M1 M2 M3 M4 m1 m2 m3 m4
                clear q0 x0 q1 x1 q2 x2 q3 x3 q4 x4 q5 x5 q6 x6 q7 x7 q8 x8
                have q0 : w3.cell? ⟨w.heap.size + 1, 0, none⟩ = _ := HX3.out.two 0
                have q1 : w3.cell? ⟨w.heap.size + 1, 1, none⟩ = _ := HX3.out.two 1
                have q2 : w3.cell? ⟨w.heap.size + 1, 2, none⟩ = _ := HX3.out.two 2
                have q3 : w3.cell? ⟨w.heap.size + 1, 3, none⟩ = _ := HX3.out.two 3
                have q4 : w3.cell? ⟨w.heap.size + 1, 4, none⟩ = _ := HX3.out.two 4
                have q5 : w3.cell? ⟨w.heap.size + 1, 5, none⟩ = _ := HX3.out.two 5
                have q6 : w3.cell? ⟨w.heap.size + 1, 6, none⟩ = _ := HX3.out.two 6
                have q7 : w3.cell? ⟨w.heap.size + 1, 7, none⟩ = _ := HX3.out.two 7
                have q8 : w3.cell? ⟨w.heap.size + 1, 8, none⟩ = _ := HX3.out.two 8
                have x0 : w3.cell? ⟨SB, 0, none⟩ = _ := HA3.out.one 0
                have x1 : w3.cell? ⟨SB, 1, none⟩ = _ := HA3.out.one 1
                have x2 : w3.cell? ⟨SB, 2, none⟩ = _ := HA3.out.one 2
                have x3 : w3.cell? ⟨SB, 3, none⟩ = _ := HA3.out.one 3
                have x4 : w3.cell? ⟨SB, 4, none⟩ = _ := HA3.out.one 4
                have x5 : w3.cell? ⟨SB, 5, none⟩ = _ := HA3.out.one 5
                have x6 : w3.cell? ⟨SB, 6, none⟩ = _ := HA3.out.one 6
                have x7 : w3.cell? ⟨SB, 7, none⟩ = _ := HA3.out.one 7
                have x8 : w3.cell? ⟨SB, 8, none⟩ = _ := HA3.out.one 8
                go_wp2_with fail
                go_ret
                exact ⟨by first | rfl | (simp [HSL.out]; done) | simp, HX3.out.below⟩
              | true =>
                go_wp2_with fail
                refine wp_region_quiet_below (by kernel_rfl) (by kernel_rfl) ?_
                repeat (go_big_quiet_step (exact Calls.regrown_of (HC.out _ _)))
                refine wpQuiet_nil ?_
                intro w3 hw'
                have hb9 : Below W2.heap.size W2 w3 := by
                  obtain ⟨⟨dq, osq⟩, rfl⟩ := hw'
                  exact below_regrown W2 dq osq
                have HX3 := Hid.mk (HX2.out.keep hb9)
                have HA3 := Hid.mk (HA2.out.keep hb9)
                have HP3 := Hid.mk (PXk.out _ _ _ HP2.out hb9)
                clear hw' hb9 AQ0 AX0 AQ1 AX1 AQ2 AX2 AQ3 AX3 AQ4 AX4 AQ5 AX5 AQ6 AX6 AQ7 AX7 AQ8 AX8 M1 M2 M3 M4 m1 m2 m3 m4
                clear q0 x0 q1 x1 q2 x2 q3 x3 q4 x4 q5 x5 q6 x6 q7 x7 q8 x8
                have q0 : w3.cell? ⟨w.heap.size + 1, 0, none⟩ = _ := HX3.out.two 0
                have q1 : w3.cell? ⟨w.heap.size + 1, 1, none⟩ = _ := HX3.out.two 1
                have q2 : w3.cell? ⟨w.heap.size + 1, 2, none⟩ = _ := HX3.out.two 2
                have q3 : w3.cell? ⟨w.heap.size + 1, 3, none⟩ = _ := HX3.out.two 3
                have q4 : w3.cell? ⟨w.heap.size + 1, 4, none⟩ = _ := HX3.out.two 4
                have q5 : w3.cell? ⟨w.heap.size + 1, 5, none⟩ = _ := HX3.out.two 5
                have q6 : w3.cell? ⟨w.heap.size + 1, 6, none⟩ = _ := HX3.out.two 6
                have q7 : w3.cell? ⟨w.heap.size + 1, 7, none⟩ = _ := HX3.out.two 7
                have q8 : w3.cell? ⟨w.heap.size + 1, 8, none⟩ = _ := HX3.out.two 8
                have x0 : w3.cell? ⟨SB, 0, none⟩ = _ := HA3.out.one 0
                have x1 : w3.cell? ⟨SB, 1, none⟩ = _ := HA3.out.one 1
                have x2 : w3.cell? ⟨SB, 2, none⟩ = _ := HA3.out.one 2
                have x3 : w3.cell? ⟨SB, 3, none⟩ = _ := HA3.out.one 3
                have x4 : w3.cell? ⟨SB, 4, none⟩ = _ := HA3.out.one 4
                have x5 : w3.cell? ⟨SB, 5, none⟩ = _ := HA3.out.one 5
                have x6 : w3.cell? ⟨SB, 6, none⟩ = _ := HA3.out.one 6
                have x7 : w3.cell? ⟨SB, 7, none⟩ = _ := HA3.out.one 7
                have x8 : w3.cell? ⟨SB, 8, none⟩ = _ := HA3.out.one 8
                go_wp2_with fail
                refine (HTx.out _ _ HP3.out HX3.out.below).mono ?_
                rintro e w4 ⟨rfl, hq⟩
                have HX4 := Hid.mk (HX3.out.keep hq)
                have HA4 := Hid.mk (HA3.out.keep hq)
                have HP4 := Hid.mk (PXk.out _ _ _ HP3.out hq)
                clear hq
                clear q0 x0 q1 x1 q2 x2 q3 x3 q4 x4 q5 x5 q6 x6 q7 x7 q8 x8
                have q0 : w4.cell? ⟨w.heap.size + 1, 0, none⟩ = _ := HX4.out.two 0
                have q1 : w4.cell? ⟨w.heap.size + 1, 1, none⟩ = _ := HX4.out.two 1
                have q2 : w4.cell? ⟨w.heap.size + 1, 2, none⟩ = _ := HX4.out.two 2
                have q3 : w4.cell? ⟨w.heap.size + 1, 3, none⟩ = _ := HX4.out.two 3
                have q4 : w4.cell? ⟨w.heap.size + 1, 4, none⟩ = _ := HX4.out.two 4
                have q5 : w4.cell? ⟨w.heap.size + 1, 5, none⟩ = _ := HX4.out.two 5
                have q6 : w4.cell? ⟨w.heap.size + 1, 6, none⟩ = _ := HX4.out.two 6
                have q7 : w4.cell? ⟨w.heap.size + 1, 7, none⟩ = _ := HX4.out.two 7
                have q8 : w4.cell? ⟨w.heap.size + 1, 8, none⟩ = _ := HX4.out.two 8
                have x0 : w4.cell? ⟨SB, 0, none⟩ = _ := HA4.out.one 0
                have x1 : w4.cell? ⟨SB, 1, none⟩ = _ := HA4.out.one 1
                have x2 : w4.cell? ⟨SB, 2, none⟩ = _ := HA4.out.one 2
                have x3 : w4.cell? ⟨SB, 3, none⟩ = _ := HA4.out.one 3
                have x4 : w4.cell? ⟨SB, 4, none⟩ = _ := HA4.out.one 4
                have x5 : w4.cell? ⟨SB, 5, none⟩ = _ := HA4.out.one 5
                have x6 : w4.cell? ⟨SB, 6, none⟩ = _ := HA4.out.one 6
                have x7 : w4.cell? ⟨SB, 7, none⟩ = _ := HA4.out.one 7
                have x8 : w4.cell? ⟨SB, 8, none⟩ = _ := HA4.out.one 8
                cases tx with
                | false =>
                  go_wp2_with fail
                  go_ret
                  exact ⟨by first | rfl | (simp [HSL.out]; done) | simp, HX4.out.below⟩
                | true =>
                  go_wp2_with fail
                  refine (HAr.out _ _ HP4.out HX4.out.below).mono ?_
                  rintro e w5 ⟨rfl, hq⟩
                  have HX5 := Hid.mk (HX4.out.keep hq)
                  have HA5 := Hid.mk (HA4.out.keep hq)
                  have HP5 := Hid.mk (PXk.out _ _ _ HP4.out hq)
                  clear hq
                  clear q0 x0 q1 x1 q2 x2 q3 x3 q4 x4 q5 x5 q6 x6 q7 x7 q8 x8
                  have q0 : w5.cell? ⟨w.heap.size + 1, 0, none⟩ = _ := HX5.out.two 0
                  have q1 : w5.cell? ⟨w.heap.size + 1, 1, none⟩ = _ := HX5.out.two 1
                  have q2 : w5.cell? ⟨w.heap.size + 1, 2, none⟩ = _ := HX5.out.two 2
                  have q3 : w5.cell? ⟨w.heap.size + 1, 3, none⟩ = _ := HX5.out.two 3
                  have q4 : w5.cell? ⟨w.heap.size + 1, 4, none⟩ = _ := HX5.out.two 4
                  have q5 : w5.cell? ⟨w.heap.size + 1, 5, none⟩ = _ := HX5.out.two 5
                  have q6 : w5.cell? ⟨w.heap.size + 1, 6, none⟩ = _ := HX5.out.two 6
                  have q7 : w5.cell? ⟨w.heap.size + 1, 7, none⟩ = _ := HX5.out.two 7
                  have q8 : w5.cell? ⟨w.heap.size + 1, 8, none⟩ = _ := HX5.out.two 8
                  have x0 : w5.cell? ⟨SB, 0, none⟩ = _ := HA5.out.one 0
                  have x1 : w5.cell? ⟨SB, 1, none⟩ = _ := HA5.out.one 1
                  have x2 : w5.cell? ⟨SB, 2, none⟩ = _ := HA5.out.one 2
                  have x3 : w5.cell? ⟨SB, 3, none⟩ = _ := HA5.out.one 3
                  have x4 : w5.cell? ⟨SB, 4, none⟩ = _ := HA5.out.one 4
                  have x5 : w5.cell? ⟨SB, 5, none⟩ = _ := HA5.out.one 5
                  have x6 : w5.cell? ⟨SB, 6, none⟩ = _ := HA5.out.one 6
                  have x7 : w5.cell? ⟨SB, 7, none⟩ = _ := HA5.out.one 7
                  have x8 : w5.cell? ⟨SB, 8, none⟩ = _ := HA5.out.one 8
                  cases ar with
                  | false =>
                    go_wp2_with fail
                    go_ret
                    exact ⟨by first | rfl | (simp [HSL.out]; done) | simp, HX5.out.below⟩
                  | true =>
                    go_wp2_with fail
                    refine (HOb.out _ _ HP5.out HX5.out.below).mono ?_
                    rintro e w6 ⟨rfl, hq⟩
                    have HX6 := Hid.mk (HX5.out.keep hq)
                    have HA6 := Hid.mk (HA5.out.keep hq)
                    have HP6 := Hid.mk (PXk.out _ _ _ HP5.out hq)
                    clear hq
                    clear q0 x0 q1 x1 q2 x2 q3 x3 q4 x4 q5 x5 q6 x6 q7 x7 q8 x8
                    have q0 : w6.cell? ⟨w.heap.size + 1, 0, none⟩ = _ := HX6.out.two 0
                    have q1 : w6.cell? ⟨w.heap.size + 1, 1, none⟩ = _ := HX6.out.two 1
                    have q2 : w6.cell? ⟨w.heap.size + 1, 2, none⟩ = _ := HX6.out.two 2
                    have q3 : w6.cell? ⟨w.heap.size + 1, 3, none⟩ = _ := HX6.out.two 3
                    have q4 : w6.cell? ⟨w.heap.size + 1, 4, none⟩ = _ := HX6.out.two 4
                    have q5 : w6.cell? ⟨w.heap.size + 1, 5, none⟩ = _ := HX6.out.two 5
                    have q6 : w6.cell? ⟨w.heap.size + 1, 6, none⟩ = _ := HX6.out.two 6
                    have q7 : w6.cell? ⟨w.heap.size + 1, 7, none⟩ = _ := HX6.out.two 7
                    have q8 : w6.cell? ⟨w.heap.size + 1, 8, none⟩ = _ := HX6.out.two 8
                    have x0 : w6.cell? ⟨SB, 0, none⟩ = _ := HA6.out.one 0
                    have x1 : w6.cell? ⟨SB, 1, none⟩ = _ := HA6.out.one 1
                    have x2 : w6.cell? ⟨SB, 2, none⟩ = _ := HA6.out.one 2
                    have x3 : w6.cell? ⟨SB, 3, none⟩ = _ := HA6.out.one 3
                    have x4 : w6.cell? ⟨SB, 4, none⟩ = _ := HA6.out.one 4
                    have x5 : w6.cell? ⟨SB, 5, none⟩ = _ := HA6.out.one 5
                    have x6 : w6.cell? ⟨SB, 6, none⟩ = _ := HA6.out.one 6
                    have x7 : w6.cell? ⟨SB, 7, none⟩ = _ := HA6.out.one 7
                    have x8 : w6.cell? ⟨SB, 8, none⟩ = _ := HA6.out.one 8
                    go_wp2_with fail
                    go_ret
                    exact ⟨by first | rfl | (simp [HSL.out]; done) | simp, HX6.out.below⟩
        | true =>
          cases td with
          | false =>
            go_wp2_with fail
            go_ret
            exact ⟨by first | rfl | simp, HX2.out.below⟩
          | true =>
            have AQ0 := fun d os => cell_regrown q0 d os
            have AX0 := fun d os => cell_regrown x0 d os
            have AQ1 := fun d os => cell_regrown q1 d os
            have AX1 := fun d os => cell_regrown x1 d os
            have AQ2 := fun d os => cell_regrown q2 d os
            have AX2 := fun d os => cell_regrown x2 d os
            have AQ3 := fun d os => cell_regrown q3 d os
            have AX3 := fun d os => cell_regrown x3 d os
            have AQ4 := fun d os => cell_regrown q4 d os
            have AX4 := fun d os => cell_regrown x4 d os
            have AQ5 := fun d os => cell_regrown q5 d os
            have AX5 := fun d os => cell_regrown x5 d os
            have AQ6 := fun d os => cell_regrown q6 d os
            have AX6 := fun d os => cell_regrown x6 d os
            have AQ7 := fun d os => cell_regrown q7 d os
            have AX7 := fun d os => cell_regrown x7 d os
            have AQ8 := fun d os => cell_regrown q8 d os
            have AX8 := fun d os => cell_regrown x8 d os
            rcases HPS.out with ⟨rfl, rfl⟩ | ⟨p, rfl, rfl⟩
            · have HC := Hid.mk (fun (d : Nat) (os : Array Obj) => HSp.out (.empty, .empty) (.empty, .empty) okS0 okS0 (grow (redrawn W2 d) os))
              go_wp2_with fail
              refine wp_region_quiet_below (by kernel_rfl) (by kernel_rfl) ?_
              repeat (go_big_quiet_step (exact Calls.regrown_of (HC.out _ _)))
              refine wpQuiet_nil ?_
              intro w3 hw'
              have hb9 : Below W2.heap.size W2 w3 := by
                obtain ⟨⟨dq, osq⟩, rfl⟩ := hw'
                exact below_regrown W2 dq osq
              have HX3 := Hid.mk (HX2.out.keep hb9)
              have HA3 := Hid.mk (HA2.out.keep hb9)
              have HP3 := Hid.mk (PXk.out _ _ _ HP2.out hb9)
              clear hw' hb9 AQ0 AX0 AQ1 AX1 AQ2 AX2 AQ3 AX3 AQ4 AX4 AQ5 AX5 AQ6 AX6 AQ7 AX7 AQ8 AX8
              clear q0 x0 q1 x1 q2 x2 q3 x3 q4 x4 q5 x5 q6 x6 q7 x7 q8 x8
              have q0 : w3.cell? ⟨w.heap.size + 1, 0, none⟩ = _ := HX3.out.two 0
              have q1 : w3.cell? ⟨w.heap.size + 1, 1, none⟩ = _ := HX3.out.two 1
              have q2 : w3.cell? ⟨w.heap.size + 1, 2, none⟩ = _ := HX3.out.two 2
              have q3 : w3.cell? ⟨w.heap.size + 1, 3, none⟩ = _ := HX3.out.two 3
              have q4 : w3.cell? ⟨w.heap.size + 1, 4, none⟩ = _ := HX3.out.two 4
              have q5 : w3.cell? ⟨w.heap.size + 1, 5, none⟩ = _ := HX3.out.two 5
              have q6 : w3.cell? ⟨w.heap.size + 1, 6, none⟩ = _ := HX3.out.two 6
              have q7 : w3.cell? ⟨w.heap.size + 1, 7, none⟩ = _ := HX3.out.two 7
              have q8 : w3.cell? ⟨w.heap.size + 1, 8, none⟩ = _ := HX3.out.two 8
              have x0 : w3.cell? ⟨SB, 0, none⟩ = _ := HA3.out.one 0
              have x1 : w3.cell? ⟨SB, 1, none⟩ = _ := HA3.out.one 1
              have x2 : w3.cell? ⟨SB, 2, none⟩ = _ := HA3.out.one 2
              have x3 : w3.cell? ⟨SB, 3, none⟩ = _ := HA3.out.one 3
              have x4 : w3.cell? ⟨SB, 4, none⟩ = _ := HA3.out.one 4
              have x5 : w3.cell? ⟨SB, 5, none⟩ = _ := HA3.out.one 5
              have x6 : w3.cell? ⟨SB, 6, none⟩ = _ := HA3.out.one 6
              have x7 : w3.cell? ⟨SB, 7, none⟩ = _ := HA3.out.one 7
              have x8 : w3.cell? ⟨SB, 8, none⟩ = _ := HA3.out.one 8
              go_wp2_with fail
              refine (HTx.out _ _ HP3.out HX3.out.below).mono ?_
              rintro e w4 ⟨rfl, hq⟩
              have HX4 := Hid.mk (HX3.out.keep hq)
              have HA4 := Hid.mk (HA3.out.keep hq)
              have HP4 := Hid.mk (PXk.out _ _ _ HP3.out hq)
              clear hq
              clear q0 x0 q1 x1 q2 x2 q3 x3 q4 x4 q5 x5 q6 x6 q7 x7 q8 x8
              have q0 : w4.cell? ⟨w.heap.size + 1, 0, none⟩ = _ := HX4.out.two 0
              have q1 : w4.cell? ⟨w.heap.size + 1, 1, none⟩ = _ := HX4.out.two 1
              have q2 : w4.cell? ⟨w.heap.size + 1, 2, none⟩ = _ := HX4.out.two 2
              have q3 : w4.cell? ⟨w.heap.size + 1, 3, none⟩ = _ := HX4.out.two 3
              have q4 : w4.cell? ⟨w.heap.size + 1, 4, none⟩ = _ := HX4.out.two 4
              have q5 : w4.cell? ⟨w.heap.size + 1, 5, none⟩ = _ := HX4.out.two 5
              have q6 : w4.cell? ⟨w.heap.size + 1, 6, none⟩ = _ := HX4.out.two 6
              have q7 : w4.cell? ⟨w.heap.size + 1, 7, none⟩ = _ := HX4.out.two 7
              have q8 : w4.cell? ⟨w.heap.size + 1, 8, none⟩ = _ := HX4.out.two 8
              have x0 : w4.cell? ⟨SB, 0, none⟩ = _ := HA4.out.one 0
              have x1 : w4.cell? ⟨SB, 1, none⟩ = _ := HA4.out.one 1
              have x2 : w4.cell? ⟨SB, 2, none⟩ = _ := HA4.out.one 2
              have x3 : w4.cell? ⟨SB, 3, none⟩ = _ := HA4.out.one 3
              have x4 : w4.cell? ⟨SB, 4, none⟩ = _ := HA4.out.one 4
              have x5 : w4.cell? ⟨SB, 5, none⟩ = _ := HA4.out.one 5
              have x6 : w4.cell? ⟨SB, 6, none⟩ = _ := HA4.out.one 6
              have x7 : w4.cell? ⟨SB, 7, none⟩ = _ := HA4.out.one 7
              have x8 : w4.cell? ⟨SB, 8, none⟩ = _ := HA4.out.one 8
              cases tx with
              | false =>
                go_wp2_with fail
                go_ret
                exact ⟨by first | rfl | simp, HX4.out.below⟩
              | true =>
                go_wp2_with fail
                refine (HAr.out _ _ HP4.out HX4.out.below).mono ?_
                rintro e w5 ⟨rfl, hq⟩
                have HX5 := Hid.mk (HX4.out.keep hq)
                have HA5 := Hid.mk (HA4.out.keep hq)
                have HP5 := Hid.mk (PXk.out _ _ _ HP4.out hq)
                clear hq
                clear q0 x0 q1 x1 q2 x2 q3 x3 q4 x4 q5 x5 q6 x6 q7 x7 q8 x8
                have q0 : w5.cell? ⟨w.heap.size + 1, 0, none⟩ = _ := HX5.out.two 0
                have q1 : w5.cell? ⟨w.heap.size + 1, 1, none⟩ = _ := HX5.out.two 1
                have q2 : w5.cell? ⟨w.heap.size + 1, 2, none⟩ = _ := HX5.out.two 2
                have q3 : w5.cell? ⟨w.heap.size + 1, 3, none⟩ = _ := HX5.out.two 3
                have q4 : w5.cell? ⟨w.heap.size + 1, 4, none⟩ = _ := HX5.out.two 4
                have q5 : w5.cell? ⟨w.heap.size + 1, 5, none⟩ = _ := HX5.out.two 5
                have q6 : w5.cell? ⟨w.heap.size + 1, 6, none⟩ = _ := HX5.out.two 6
                have q7 : w5.cell? ⟨w.heap.size + 1, 7, none⟩ = _ := HX5.out.two 7
                have q8 : w5.cell? ⟨w.heap.size + 1, 8, none⟩ = _ := HX5.out.two 8
                have x0 : w5.cell? ⟨SB, 0, none⟩ = _ := HA5.out.one 0
                have x1 : w5.cell? ⟨SB, 1, none⟩ = _ := HA5.out.one 1
                have x2 : w5.cell? ⟨SB, 2, none⟩ = _ := HA5.out.one 2
                have x3 : w5.cell? ⟨SB, 3, none⟩ = _ := HA5.out.one 3
                have x4 : w5.cell? ⟨SB, 4, none⟩ = _ := HA5.out.one 4
                have x5 : w5.cell? ⟨SB, 5, none⟩ = _ := HA5.out.one 5
                have x6 : w5.cell? ⟨SB, 6, none⟩ = _ := HA5.out.one 6
                have x7 : w5.cell? ⟨SB, 7, none⟩ = _ := HA5.out.one 7
                have x8 : w5.cell? ⟨SB, 8, none⟩ = _ := HA5.out.one 8
                cases ar with
                | false =>
                  go_wp2_with fail
                  go_ret
                  exact ⟨by first | rfl | simp, HX5.out.below⟩
                | true =>
                  go_wp2_with fail
                  refine (HOb.out _ _ HP5.out HX5.out.below).mono ?_
                  rintro e w6 ⟨rfl, hq⟩
                  have HX6 := Hid.mk (HX5.out.keep hq)
                  have HA6 := Hid.mk (HA5.out.keep hq)
                  have HP6 := Hid.mk (PXk.out _ _ _ HP5.out hq)
                  clear hq
                  clear q0 x0 q1 x1 q2 x2 q3 x3 q4 x4 q5 x5 q6 x6 q7 x7 q8 x8
                  have q0 : w6.cell? ⟨w.heap.size + 1, 0, none⟩ = _ := HX6.out.two 0
                  have q1 : w6.cell? ⟨w.heap.size + 1, 1, none⟩ = _ := HX6.out.two 1
                  have q2 : w6.cell? ⟨w.heap.size + 1, 2, none⟩ = _ := HX6.out.two 2
                  have q3 : w6.cell? ⟨w.heap.size + 1, 3, none⟩ = _ := HX6.out.two 3
                  have q4 : w6.cell? ⟨w.heap.size + 1, 4, none⟩ = _ := HX6.out.two 4
                  have q5 : w6.cell? ⟨w.heap.size + 1, 5, none⟩ = _ := HX6.out.two 5
                  have q6 : w6.cell? ⟨w.heap.size + 1, 6, none⟩ = _ := HX6.out.two 6
                  have q7 : w6.cell? ⟨w.heap.size + 1, 7, none⟩ = _ := HX6.out.two 7
                  have q8 : w6.cell? ⟨w.heap.size + 1, 8, none⟩ = _ := HX6.out.two 8
                  have x0 : w6.cell? ⟨SB, 0, none⟩ = _ := HA6.out.one 0
                  have x1 : w6.cell? ⟨SB, 1, none⟩ = _ := HA6.out.one 1
                  have x2 : w6.cell? ⟨SB, 2, none⟩ = _ := HA6.out.one 2
                  have x3 : w6.cell? ⟨SB, 3, none⟩ = _ := HA6.out.one 3
                  have x4 : w6.cell? ⟨SB, 4, none⟩ = _ := HA6.out.one 4
                  have x5 : w6.cell? ⟨SB, 5, none⟩ = _ := HA6.out.one 5
                  have x6 : w6.cell? ⟨SB, 6, none⟩ = _ := HA6.out.one 6
                  have x7 : w6.cell? ⟨SB, 7, none⟩ = _ := HA6.out.one 7
                  have x8 : w6.cell? ⟨SB, 8, none⟩ = _ := HA6.out.one 8
                  go_wp2_with fail
                  go_ret
                  exact ⟨by first | rfl | simp, HX6.out.below⟩
            · rcases HQS.out with ⟨rfl, rfl⟩ | ⟨q, rfl, rfl⟩
              · have HC := Hid.mk (fun (d : Nat) (os : Array Obj) => HSp.out (.empty, .empty) (.empty, .empty) okS0 okS0 (grow (redrawn W2 d) os))
                go_wp2_with fail
                refine wp_region_quiet_below (by kernel_rfl) (by kernel_rfl) ?_
                repeat (go_big_quiet_step (exact Calls.regrown_of (HC.out _ _)))
                refine wpQuiet_nil ?_
                intro w3 hw'
                have hb9 : Below W2.heap.size W2 w3 := by
                  obtain ⟨⟨dq, osq⟩, rfl⟩ := hw'
                  exact below_regrown W2 dq osq
                have HX3 := Hid.mk (HX2.out.keep hb9)
                have HA3 := Hid.mk (HA2.out.keep hb9)
                have HP3 := Hid.mk (PXk.out _ _ _ HP2.out hb9)
                clear hw' hb9 AQ0 AX0 AQ1 AX1 AQ2 AX2 AQ3 AX3 AQ4 AX4 AQ5 AX5 AQ6 AX6 AQ7 AX7 AQ8 AX8
                clear q0 x0 q1 x1 q2 x2 q3 x3 q4 x4 q5 x5 q6 x6 q7 x7 q8 x8
                have q0 : w3.cell? ⟨w.heap.size + 1, 0, none⟩ = _ := HX3.out.two 0
                have q1 : w3.cell? ⟨w.heap.size + 1, 1, none⟩ = _ := HX3.out.two 1
                have q2 : w3.cell? ⟨w.heap.size + 1, 2, none⟩ = _ := HX3.out.two 2
                have q3 : w3.cell? ⟨w.heap.size + 1, 3, none⟩ = _ := HX3.out.two 3
                have q4 : w3.cell? ⟨w.heap.size + 1, 4, none⟩ = _ := HX3.out.two 4
                have q5 : w3.cell? ⟨w.heap.size + 1, 5, none⟩ = _ := HX3.out.two 5
                have q6 : w3.cell? ⟨w.heap.size + 1, 6, none⟩ = _ := HX3.out.two 6
                have q7 : w3.cell? ⟨w.heap.size + 1, 7, none⟩ = _ := HX3.out.two 7
                have q8 : w3.cell? ⟨w.heap.size + 1, 8, none⟩ = _ := HX3.out.two 8
                have x0 : w3.cell? ⟨SB, 0, none⟩ = _ := HA3.out.one 0
                have x1 : w3.cell? ⟨SB, 1, none⟩ = _ := HA3.out.one 1
                have x2 : w3.cell? ⟨SB, 2, none⟩ = _ := HA3.out.one 2
                have x3 : w3.cell? ⟨SB, 3, none⟩ = _ := HA3.out.one 3
                have x4 : w3.cell? ⟨SB, 4, none⟩ = _ := HA3.out.one 4
                have x5 : w3.cell? ⟨SB, 5, none⟩ = _ := HA3.out.one 5
                have x6 : w3.cell? ⟨SB, 6, none⟩ = _ := HA3.out.one 6
                have x7 : w3.cell? ⟨SB, 7, none⟩ = _ := HA3.out.one 7
                have x8 : w3.cell? ⟨SB, 8, none⟩ = _ := HA3.out.one 8
                go_wp2_with fail
                go_ret
                exact ⟨by first | rfl | simp, HX3.out.below⟩
              · obtain ⟨xb, xoff, hxo, lxb, hxr⟩ := HSX.out.row (by simp)
                obtain ⟨yb, yoff, hyo, lyb, hyr⟩ := HSY.out.row (by simp)
                subst hxo hyo
                have k1 := hxr 0 (by simp)
                have k2 := hyr 0 (by simp)
                simp only [List.getElem_cons_zero, Nat.zero_mul, Nat.add_zero] at k1 k2
                obtain ⟨m1, m2⟩ := k1
                obtain ⟨m3, m4⟩ := k2
                have M1 := fun d os => cell_regrown m1 d os
                have M2 := fun d os => cell_regrown m2 d os
                have M3 := fun d os => cell_regrown m3 d os
                have M4 := fun d os => cell_regrown m4 d os
                have HC := Hid.mk (fun (d : Nat) (os : Array Obj) => HSp.out p q (HOp.out p (List.mem_singleton.2 rfl)) (HOq.out q (List.mem_singleton.2 rfl)) (grow (redrawn W2 d) os))
                obtain ⟨sr, hsr⟩ : ∃ sr, inS p.1 p.2 q.1 q.2 = sr := ⟨_, rfl⟩
                have hsl : spL [p] [q] = sr := hsr
                have HSL := Hid.mk hsl
                rw [hsr] at HC
                clear hxr hyr hsr hsl
                cases sr with
                | false =>
                  go_wp2_with fail
                  refine wp_region_quiet_below (by kernel_rfl) (by kernel_rfl) ?_
                  repeat (go_big_quiet_step (exact Calls.regrown_of (HC.out _ _)))
                  refine wpQuiet_nil ?_
                  intro w3 hw'
                  have hb9 : Below W2.heap.size W2 w3 := by
                    obtain ⟨⟨dq, osq⟩, rfl⟩ := hw'
                    exact below_regrown W2 dq osq
                  have HX3 := Hid.mk (HX2.out.keep hb9)
                  have HA3 := Hid.mk (HA2.out.keep hb9)
                  have HP3 := Hid.mk (PXk.out _ _ _ HP2.out hb9)
                  clear hw' hb9 AQ0 AX0 AQ1 AX1 AQ2 AX2 AQ3 AX3 AQ4 AX4 AQ5 AX5 AQ6 AX6 AQ7 AX7 AQ8 AX8 M1 M2 M3 M4 m1 m2 m3 m4
                  clear q0 x0 q1 x1 q2 x2 q3 x3 q4 x4 q5 x5 q6 x6 q7 x7 q8 x8
                  have q0 : w3.cell? ⟨w.heap.size + 1, 0, none⟩ = _ := HX3.out.two 0
                  have q1 : w3.cell? ⟨w.heap.size + 1, 1, none⟩ = _ := HX3.out.two 1
                  have q2 : w3.cell? ⟨w.heap.size + 1, 2, none⟩ = _ := HX3.out.two 2
                  have q3 : w3.cell? ⟨w.heap.size + 1, 3, none⟩ = _ := HX3.out.two 3
                  have q4 : w3.cell? ⟨w.heap.size + 1, 4, none⟩ = _ := HX3.out.two 4
                  have q5 : w3.cell? ⟨w.heap.size + 1, 5, none⟩ = _ := HX3.out.two 5
                  have q6 : w3.cell? ⟨w.heap.size + 1, 6, none⟩ = _ := HX3.out.two 6
                  have q7 : w3.cell? ⟨w.heap.size + 1, 7, none⟩ = _ := HX3.out.two 7
                  have q8 : w3.cell? ⟨w.heap.size + 1, 8, none⟩ = _ := HX3.out.two 8
                  have x0 : w3.cell? ⟨SB, 0, none⟩ = _ := HA3.out.one 0
                  have x1 : w3.cell? ⟨SB, 1, none⟩ = _ := HA3.out.one 1
                  have x2 : w3.cell? ⟨SB, 2, none⟩ = _ := HA3.out.one 2
                  have x3 : w3.cell? ⟨SB, 3, none⟩ = _ := HA3.out.one 3
                  have x4 : w3.cell? ⟨SB, 4, none⟩ = _ := HA3.out.one 4
                  have x5 : w3.cell? ⟨SB, 5, none⟩ = _ := HA3.out.one 5
                  have x6 : w3.cell? ⟨SB, 6, none⟩ = _ := HA3.out.one 6
                  have x7 : w3.cell? ⟨SB, 7, none⟩ = _ := HA3.out.one 7
                  have x8 : w3.cell? ⟨SB, 8, none⟩ = _ := HA3.out.one 8
                  go_wp2_with fail
                  go_ret
                  exact ⟨by first | rfl | (simp [HSL.out]; done) | simp, HX3.out.below⟩
                | true =>
                  go_wp2_with fail
                  refine wp_region_quiet_below (by kernel_rfl) (by kernel_rfl) ?_
                  repeat (go_big_quiet_step (exact Calls.regrown_of (HC.out _ _)))
                  refine wpQuiet_nil ?_
                  intro w3 hw'
                  have hb9 : Below W2.heap.size W2 w3 := by
                    obtain ⟨⟨dq, osq⟩, rfl⟩ := hw'
                    exact below_regrown W2 dq osq
                  have HX3 := Hid.mk (HX2.out.keep hb9)
                  have HA3 := Hid.mk (HA2.out.keep hb9)
                  have HP3 := Hid.mk (PXk.out _ _ _ HP2.out hb9)
                  clear hw' hb9 AQ0 AX0 AQ1 AX1 AQ2 AX2 AQ3 AX3 AQ4 AX4 AQ5 AX5 AQ6 AX6 AQ7 AX7 AQ8 AX8 M1 M2 M3 M4 m1 m2 m3 m4
                  clear q0 x0 q1 x1 q2 x2 q3 x3 q4 x4 q5 x5 q6 x6 q7 x7 q8 x8
                  have q0 : w3.cell? ⟨w.heap.size + 1, 0, none⟩ = _ := HX3.out.two 0
                  have q1 : w3.cell? ⟨w.heap.size + 1, 1, none⟩ = _ := HX3.out.two 1
                  have q2 : w3.cell? ⟨w.heap.size + 1, 2, none⟩ = _ := HX3.out.two 2
                  have q3 : w3.cell? ⟨w.heap.size + 1, 3, none⟩ = _ := HX3.out.two 3
                  have q4 : w3.cell? ⟨w.heap.size + 1, 4, none⟩ = _ := HX3.out.two 4
                  have q5 : w3.cell? ⟨w.heap.size + 1, 5, none⟩ = _ := HX3.out.two 5
                  have q6 : w3.cell? ⟨w.heap.size + 1, 6, none⟩ = _ := HX3.out.two 6
                  have q7 : w3.cell? ⟨w.heap.size + 1, 7, none⟩ = _ := HX3.out.two 7
                  have q8 : w3.cell? ⟨w.heap.size + 1, 8, none⟩ = _ := HX3.out.two 8
                  have x0 : w3.cell? ⟨SB, 0, none⟩ = _ := HA3.out.one 0
                  have x1 : w3.cell? ⟨SB, 1, none⟩ = _ := HA3.out.one 1
                  have x2 : w3.cell? ⟨SB, 2, none⟩ = _ := HA3.out.one 2
                  have x3 : w3.cell? ⟨SB, 3, none⟩ = _ := HA3.out.one 3
                  have x4 : w3.cell? ⟨SB, 4, none⟩ = _ := HA3.out.one 4
                  have x5 : w3.cell? ⟨SB, 5, none⟩ = _ := HA3.out.one 5
                  have x6 : w3.cell? ⟨SB, 6, none⟩ = _ := HA3.out.one 6
                  have x7 : w3.cell? ⟨SB, 7, none⟩ = _ := HA3.out.one 7
                  have x8 : w3.cell? ⟨SB, 8, none⟩ = _ := HA3.out.one 8
                  go_wp2_with fail
                  refine (HTx.out _ _ HP3.out HX3.out.below).mono ?_
                  rintro e w4 ⟨rfl, hq⟩
                  have HX4 := Hid.mk (HX3.out.keep hq)
                  have HA4 := Hid.mk (HA3.out.keep hq)
                  have HP4 := Hid.mk (PXk.out _ _ _ HP3.out hq)
                  clear hq
                  clear q0 x0 q1 x1 q2 x2 q3 x3 q4 x4 q5 x5 q6 x6 q7 x7 q8 x8
                  have q0 : w4.cell? ⟨w.heap.size + 1, 0, none⟩ = _ := HX4.out.two 0
                  have q1 : w4.cell? ⟨w.heap.size + 1, 1, none⟩ = _ := HX4.out.two 1
                  have q2 : w4.cell? ⟨w.heap.size + 1, 2, none⟩ = _ := HX4.out.two 2
                  have q3 : w4.cell? ⟨w.heap.size + 1, 3, none⟩ = _ := HX4.out.two 3
                  have q4 : w4.cell? ⟨w.heap.size + 1, 4, none⟩ = _ := HX4.out.two 4
                  have q5 : w4.cell? ⟨w.heap.size + 1, 5, none⟩ = _ := HX4.out.two 5
                  have q6 : w4.cell? ⟨w.heap.size + 1, 6, none⟩ = _ := HX4.out.two 6
                  have q7 : w4.cell? ⟨w.heap.size + 1, 7, none⟩ = _ := HX4.out.two 7
                  have q8 : w4.cell? ⟨w.heap.size + 1, 8, none⟩ = _ := HX4.out.two 8
                  have x0 : w4.cell? ⟨SB, 0, none⟩ = _ := HA4.out.one 0
                  have x1 : w4.cell? ⟨SB, 1, none⟩ = _ := HA4.out.one 1
                  have x2 : w4.cell? ⟨SB, 2, none⟩ = _ := HA4.out.one 2
                  have x3 : w4.cell? ⟨SB, 3, none⟩ = _ := HA4.out.one 3
                  have x4 : w4.cell? ⟨SB, 4, none⟩ = _ := HA4.out.one 4
                  have x5 : w4.cell? ⟨SB, 5, none⟩ = _ := HA4.out.one 5
                  have x6 : w4.cell? ⟨SB, 6, none⟩ = _ := HA4.out.one 6
                  have x7 : w4.cell? ⟨SB, 7, none⟩ = _ := HA4.out.one 7
                  have x8 : w4.cell? ⟨SB, 8, none⟩ = _ := HA4.out.one 8
                  cases tx with
                  | false =>
                    go_wp2_with fail
                    go_ret
                    exact ⟨by first | rfl | (simp [HSL.out]; done) | simp, HX4.out.below⟩
                  | true =>
                    go_wp2_with fail
                    refine (HAr.out _ _ HP4.out HX4.out.below).mono ?_
                    rintro e w5 ⟨rfl, hq⟩
                    have HX5 := Hid.mk (HX4.out.keep hq)
                    have HA5 := Hid.mk (HA4.out.keep hq)
                    have HP5 := Hid.mk (PXk.out _ _ _ HP4.out hq)
                    clear hq
                    clear q0 x0 q1 x1 q2 x2 q3 x3 q4 x4 q5 x5 q6 x6 q7 x7 q8 x8
                    have q0 : w5.cell? ⟨w.heap.size + 1, 0, none⟩ = _ := HX5.out.two 0
                    have q1 : w5.cell? ⟨w.heap.size + 1, 1, none⟩ = _ := HX5.out.two 1
                    have q2 : w5.cell? ⟨w.heap.size + 1, 2, none⟩ = _ := HX5.out.two 2
                    have q3 : w5.cell? ⟨w.heap.size + 1, 3, none⟩ = _ := HX5.out.two 3
                    have q4 : w5.cell? ⟨w.heap.size + 1, 4, none⟩ = _ := HX5.out.two 4
                    have q5 : w5.cell? ⟨w.heap.size + 1, 5, none⟩ = _ := HX5.out.two 5
                    have q6 : w5.cell? ⟨w.heap.size + 1, 6, none⟩ = _ := HX5.out.two 6
                    have q7 : w5.cell? ⟨w.heap.size + 1, 7, none⟩ = _ := HX5.out.two 7
                    have q8 : w5.cell? ⟨w.heap.size + 1, 8, none⟩ = _ := HX5.out.two 8
                    have x0 : w5.cell? ⟨SB, 0, none⟩ = _ := HA5.out.one 0
                    have x1 : w5.cell? ⟨SB, 1, none⟩ = _ := HA5.out.one 1
                    have x2 : w5.cell? ⟨SB, 2, none⟩ = _ := HA5.out.one 2
                    have x3 : w5.cell? ⟨SB, 3, none⟩ = _ := HA5.out.one 3
                    have x4 : w5.cell? ⟨SB, 4, none⟩ = _ := HA5.out.one 4
                    have x5 : w5.cell? ⟨SB, 5, none⟩ = _ := HA5.out.one 5
                    have x6 : w5.cell? ⟨SB, 6, none⟩ = _ := HA5.out.one 6
                    have x7 : w5.cell? ⟨SB, 7, none⟩ = _ := HA5.out.one 7
                    have x8 : w5.cell? ⟨SB, 8, none⟩ = _ := HA5.out.one 8
                    cases ar with
                    | false =>
                      go_wp2_with fail
                      go_ret
                      exact ⟨by first | rfl | (simp [HSL.out]; done) | simp, HX5.out.below⟩
                    | true =>
                      go_wp2_with fail
                      refine (HOb.out _ _ HP5.out HX5.out.below).mono ?_
                      rintro e w6 ⟨rfl, hq⟩
                      have HX6 := Hid.mk (HX5.out.keep hq)
                      have HA6 := Hid.mk (HA5.out.keep hq)
                      have HP6 := Hid.mk (PXk.out _ _ _ HP5.out hq)
                      clear hq
                      clear q0 x0 q1 x1 q2 x2 q3 x3 q4 x4 q5 x5 q6 x6 q7 x7 q8 x8
                      have q0 : w6.cell? ⟨w.heap.size + 1, 0, none⟩ = _ := HX6.out.two 0
                      have q1 : w6.cell? ⟨w.heap.size + 1, 1, none⟩ = _ := HX6.out.two 1
                      have q2 : w6.cell? ⟨w.heap.size + 1, 2, none⟩ = _ := HX6.out.two 2
                      have q3 : w6.cell? ⟨w.heap.size + 1, 3, none⟩ = _ := HX6.out.two 3
                      have q4 : w6.cell? ⟨w.heap.size + 1, 4, none⟩ = _ := HX6.out.two 4
                      have q5 : w6.cell? ⟨w.heap.size + 1, 5, none⟩ = _ := HX6.out.two 5
                      have q6 : w6.cell? ⟨w.heap.size + 1, 6, none⟩ = _ := HX6.out.two 6
                      have q7 : w6.cell? ⟨w.heap.size + 1, 7, none⟩ = _ := HX6.out.two 7
                      have q8 : w6.cell? ⟨w.heap.size + 1, 8, none⟩ = _ := HX6.out.two 8
                      have x0 : w6.cell? ⟨SB, 0, none⟩ = _ := HA6.out.one 0
                      have x1 : w6.cell? ⟨SB, 1, none⟩ = _ := HA6.out.one 1
                      have x2 : w6.cell? ⟨SB, 2, none⟩ = _ := HA6.out.one 2
                      have x3 : w6.cell? ⟨SB, 3, none⟩ = _ := HA6.out.one 3
                      have x4 : w6.cell? ⟨SB, 4, none⟩ = _ := HA6.out.one 4
                      have x5 : w6.cell? ⟨SB, 5, none⟩ = _ := HA6.out.one 5
                      have x6 : w6.cell? ⟨SB, 6, none⟩ = _ := HA6.out.one 6
                      have x7 : w6.cell? ⟨SB, 7, none⟩ = _ := HA6.out.one 7
                      have x8 : w6.cell? ⟨SB, 8, none⟩ = _ := HA6.out.one 8
                      go_wp2_with fail
                      go_ret
                      exact ⟨by first | rfl | (simp [HSL.out]; done) | simp, HX6.out.below⟩
      | true =>
        cases tc with
        | false =>
          go_wp2_with fail
          go_ret
          exact ⟨by first | rfl | simp, HX2.out.below⟩
        | true =>
          cases xt with
          | false =>
            have AQ0 := fun d os => cell_regrown q0 d os
            have AX0 := fun d os => cell_regrown x0 d os
            have AQ1 := fun d os => cell_regrown q1 d os
            have AX1 := fun d os => cell_regrown x1 d os
            have AQ2 := fun d os => cell_regrown q2 d os
            have AX2 := fun d os => cell_regrown x2 d os
            have AQ3 := fun d os => cell_regrown q3 d os
            have AX3 := fun d os => cell_regrown x3 d os
            have AQ4 := fun d os => cell_regrown q4 d os
            have AX4 := fun d os => cell_regrown x4 d os
            have AQ5 := fun d os => cell_regrown q5 d os
            have AX5 := fun d os => cell_regrown x5 d os
            have AQ6 := fun d os => cell_regrown q6 d os
            have AX6 := fun d os => cell_regrown x6 d os
            have AQ7 := fun d os => cell_regrown q7 d os
            have AX7 := fun d os => cell_regrown x7 d os
            have AQ8 := fun d os => cell_regrown q8 d os
            have AX8 := fun d os => cell_regrown x8 d os
            rcases HPS.out with ⟨rfl, rfl⟩ | ⟨p, rfl, rfl⟩
            · have HC := Hid.mk (fun (d : Nat) (os : Array Obj) => HSp.out (.empty, .empty) (.empty, .empty) okS0 okS0 (grow (redrawn W2 d) os))
              go_wp2_with fail
              refine wp_region_quiet_below (by kernel_rfl) (by kernel_rfl) ?_
              repeat (go_big_quiet_step (exact Calls.regrown_of (HC.out _ _)))
              refine wpQuiet_nil ?_
              intro w3 hw'
              have hb9 : Below W2.heap.size W2 w3 := by
                obtain ⟨⟨dq, osq⟩, rfl⟩ := hw'
                exact below_regrown W2 dq osq
              have HX3 := Hid.mk (HX2.out.keep hb9)
              have HA3 := Hid.mk (HA2.out.keep hb9)
              have HP3 := Hid.mk (PXk.out _ _ _ HP2.out hb9)
              clear hw' hb9 AQ0 AX0 AQ1 AX1 AQ2 AX2 AQ3 AX3 AQ4 AX4 AQ5 AX5 AQ6 AX6 AQ7 AX7 AQ8 AX8
              clear q0 x0 q1 x1 q2 x2 q3 x3 q4 x4 q5 x5 q6 x6 q7 x7 q8 x8
              have q0 : w3.cell? ⟨w.heap.size + 1, 0, none⟩ = _ := HX3.out.two 0
              have q1 : w3.cell? ⟨w.heap.size + 1, 1, none⟩ = _ := HX3.out.two 1
              have q2 : w3.cell? ⟨w.heap.size + 1, 2, none⟩ = _ := HX3.out.two 2
              have q3 : w3.cell? ⟨w.heap.size + 1, 3, none⟩ = _ := HX3.out.two 3
              have q4 : w3.cell? ⟨w.heap.size + 1, 4, none⟩ = _ := HX3.out.two 4
              have q5 : w3.cell? ⟨w.heap.size + 1, 5, none⟩ = _ := HX3.out.two 5
              have q6 : w3.cell? ⟨w.heap.size + 1, 6, none⟩ = _ := HX3.out.two 6
              have q7 : w3.cell? ⟨w.heap.size + 1, 7, none⟩ = _ := HX3.out.two 7
              have q8 : w3.cell? ⟨w.heap.size + 1, 8, none⟩ = _ := HX3.out.two 8
              have x0 : w3.cell? ⟨SB, 0, none⟩ = _ := HA3.out.one 0
              have x1 : w3.cell? ⟨SB, 1, none⟩ = _ := HA3.out.one 1
              have x2 : w3.cell? ⟨SB, 2, none⟩ = _ := HA3.out.one 2
              have x3 : w3.cell? ⟨SB, 3, none⟩ = _ := HA3.out.one 3
              have x4 : w3.cell? ⟨SB, 4, none⟩ = _ := HA3.out.one 4
              have x5 : w3.cell? ⟨SB, 5, none⟩ = _ := HA3.out.one 5
              have x6 : w3.cell? ⟨SB, 6, none⟩ = _ := HA3.out.one 6
              have x7 : w3.cell? ⟨SB, 7, none⟩ = _ := HA3.out.one 7
              have x8 : w3.cell? ⟨SB, 8, none⟩ = _ := HA3.out.one 8
              go_wp2_with fail
              refine (HTx.out _ _ HP3.out HX3.out.below).mono ?_
              rintro e w4 ⟨rfl, hq⟩
              have HX4 := Hid.mk (HX3.out.keep hq)
              have HA4 := Hid.mk (HA3.out.keep hq)
              have HP4 := Hid.mk (PXk.out _ _ _ HP3.out hq)
              clear hq
              clear q0 x0 q1 x1 q2 x2 q3 x3 q4 x4 q5 x5 q6 x6 q7 x7 q8 x8
              have q0 : w4.cell? ⟨w.heap.size + 1, 0, none⟩ = _ := HX4.out.two 0
              have q1 : w4.cell? ⟨w.heap.size + 1, 1, none⟩ = _ := HX4.out.two 1
              have q2 : w4.cell? ⟨w.heap.size + 1, 2, none⟩ = _ := HX4.out.two 2
              have q3 : w4.cell? ⟨w.heap.size + 1, 3, none⟩ = _ := HX4.out.two 3
              have q4 : w4.cell? ⟨w.heap.size + 1, 4, none⟩ = _ := HX4.out.two 4
              have q5 : w4.cell? ⟨w.heap.size + 1, 5, none⟩ = _ := HX4.out.two 5
              have q6 : w4.cell? ⟨w.heap.size + 1, 6, none⟩ = _ := HX4.out.two 6
              have q7 : w4.cell? ⟨w.heap.size + 1, 7, none⟩ = _ := HX4.out.two 7
              have q8 : w4.cell? ⟨w.heap.size + 1, 8, none⟩ = _ := HX4.out.two 8
              have x0 : w4.cell? ⟨SB, 0, none⟩ = _ := HA4.out.one 0
              have x1 : w4.cell? ⟨SB, 1, none⟩ = _ := HA4.out.one 1
              have x2 : w4.cell? ⟨SB, 2, none⟩ = _ := HA4.out.one 2
              have x3 : w4.cell? ⟨SB, 3, none⟩ = _ := HA4.out.one 3
              have x4 : w4.cell? ⟨SB, 4, none⟩ = _ := HA4.out.one 4
              have x5 : w4.cell? ⟨SB, 5, none⟩ = _ := HA4.out.one 5
              have x6 : w4.cell? ⟨SB, 6, none⟩ = _ := HA4.out.one 6
              have x7 : w4.cell? ⟨SB, 7, none⟩ = _ := HA4.out.one 7
              have x8 : w4.cell? ⟨SB, 8, none⟩ = _ := HA4.out.one 8
              cases tx with
              | false =>
                go_wp2_with fail
                go_ret
                exact ⟨by first | rfl | simp, HX4.out.below⟩
              | true =>
                go_wp2_with fail
                refine (HAr.out _ _ HP4.out HX4.out.below).mono ?_
                rintro e w5 ⟨rfl, hq⟩
                have HX5 := Hid.mk (HX4.out.keep hq)
                have HA5 := Hid.mk (HA4.out.keep hq)
                have HP5 := Hid.mk (PXk.out _ _ _ HP4.out hq)
                clear hq
                clear q0 x0 q1 x1 q2 x2 q3 x3 q4 x4 q5 x5 q6 x6 q7 x7 q8 x8
                have q0 : w5.cell? ⟨w.heap.size + 1, 0, none⟩ = _ := HX5.out.two 0
                have q1 : w5.cell? ⟨w.heap.size + 1, 1, none⟩ = _ := HX5.out.two 1
                have q2 : w5.cell? ⟨w.heap.size + 1, 2, none⟩ = _ := HX5.out.two 2
                have q3 : w5.cell? ⟨w.heap.size + 1, 3, none⟩ = _ := HX5.out.two 3
                have q4 : w5.cell? ⟨w.heap.size + 1, 4, none⟩ = _ := HX5.out.two 4
                have q5 : w5.cell? ⟨w.heap.size + 1, 5, none⟩ = _ := HX5.out.two 5
                have q6 : w5.cell? ⟨w.heap.size + 1, 6, none⟩ = _ := HX5.out.two 6
                have q7 : w5.cell? ⟨w.heap.size + 1, 7, none⟩ = _ := HX5.out.two 7
                have q8 : w5.cell? ⟨w.heap.size + 1, 8, none⟩ = _ := HX5.out.two 8
                have x0 : w5.cell? ⟨SB, 0, none⟩ = _ := HA5.out.one 0
                have x1 : w5.cell? ⟨SB, 1, none⟩ = _ := HA5.out.one 1
                have x2 : w5.cell? ⟨SB, 2, none⟩ = _ := HA5.out.one 2
                have x3 : w5.cell? ⟨SB, 3, none⟩ = _ := HA5.out.one 3
                have x4 : w5.cell? ⟨SB, 4, none⟩ = _ := HA5.out.one 4
                have x5 : w5.cell? ⟨SB, 5, none⟩ = _ := HA5.out.one 5
                have x6 : w5.cell? ⟨SB, 6, none⟩ = _ := HA5.out.one 6
                have x7 : w5.cell? ⟨SB, 7, none⟩ = _ := HA5.out.one 7
                have x8 : w5.cell? ⟨SB, 8, none⟩ = _ := HA5.out.one 8
                cases ar with
                | false =>
                  go_wp2_with fail
                  go_ret
                  exact ⟨by first | rfl | simp, HX5.out.below⟩
                | true =>
                  go_wp2_with fail
                  refine (HOb.out _ _ HP5.out HX5.out.below).mono ?_
                  rintro e w6 ⟨rfl, hq⟩
                  have HX6 := Hid.mk (HX5.out.keep hq)
                  have HA6 := Hid.mk (HA5.out.keep hq)
                  have HP6 := Hid.mk (PXk.out _ _ _ HP5.out hq)
                  clear hq
                  clear q0 x0 q1 x1 q2 x2 q3 x3 q4 x4 q5 x5 q6 x6 q7 x7 q8 x8
                  have q0 : w6.cell? ⟨w.heap.size + 1, 0, none⟩ = _ := HX6.out.two 0
                  have q1 : w6.cell? ⟨w.heap.size + 1, 1, none⟩ = _ := HX6.out.two 1
                  have q2 : w6.cell? ⟨w.heap.size + 1, 2, none⟩ = _ := HX6.out.two 2
                  have q3 : w6.cell? ⟨w.heap.size + 1, 3, none⟩ = _ := HX6.out.two 3
                  have q4 : w6.cell? ⟨w.heap.size + 1, 4, none⟩ = _ := HX6.out.two 4
                  have q5 : w6.cell? ⟨w.heap.size + 1, 5, none⟩ = _ := HX6.out.two 5
                  have q6 : w6.cell? ⟨w.heap.size + 1, 6, none⟩ = _ := HX6.out.two 6
                  have q7 : w6.cell? ⟨w.heap.size + 1, 7, none⟩ = _ := HX6.out.two 7
                  have q8 : w6.cell? ⟨w.heap.size + 1, 8, none⟩ = _ := HX6.out.two 8
                  have x0 : w6.cell? ⟨SB, 0, none⟩ = _ := HA6.out.one 0
                  have x1 : w6.cell? ⟨SB, 1, none⟩ = _ := HA6.out.one 1
                  have x2 : w6.cell? ⟨SB, 2, none⟩ = _ := HA6.out.one 2
                  have x3 : w6.cell? ⟨SB, 3, none⟩ = _ := HA6.out.one 3
                  have x4 : w6.cell? ⟨SB, 4, none⟩ = _ := HA6.out.one 4
                  have x5 : w6.cell? ⟨SB, 5, none⟩ = _ := HA6.out.one 5
                  have x6 : w6.cell? ⟨SB, 6, none⟩ = _ := HA6.out.one 6
                  have x7 : w6.cell? ⟨SB, 7, none⟩ = _ := HA6.out.one 7
                  have x8 : w6.cell? ⟨SB, 8, none⟩ = _ := HA6.out.one 8
                  go_wp2_with fail
                  go_ret
                  exact ⟨by first | rfl | simp, HX6.out.below⟩
            · rcases HQS.out with ⟨rfl, rfl⟩ | ⟨q, rfl, rfl⟩
              · have HC := Hid.mk (fun (d : Nat) (os : Array Obj) => HSp.out (.empty, .empty) (.empty, .empty) okS0 okS0 (grow (redrawn W2 d) os))
                go_wp2_with fail
                refine wp_region_quiet_below (by kernel_rfl) (by kernel_rfl) ?_
                repeat (go_big_quiet_step (exact Calls.regrown_of (HC.out _ _)))
                refine wpQuiet_nil ?_
                intro w3 hw'
                have hb9 : Below W2.heap.size W2 w3 := by
                  obtain ⟨⟨dq, osq⟩, rfl⟩ := hw'
                  exact below_regrown W2 dq osq
                have HX3 := Hid.mk (HX2.out.keep hb9)
                have HA3 := Hid.mk (HA2.out.keep hb9)
                have HP3 := Hid.mk (PXk.out _ _ _ HP2.out hb9)
                clear hw' hb9 AQ0 AX0 AQ1 AX1 AQ2 AX2 AQ3 AX3 AQ4 AX4 AQ5 AX5 AQ6 AX6 AQ7 AX7 AQ8 AX8
                clear q0 x0 q1 x1 q2 x2 q3 x3 q4 x4 q5 x5 q6 x6 q7 x7 q8 x8
                have q0 : w3.cell? ⟨w.heap.size + 1, 0, none⟩ = _ := HX3.out.two 0
                have q1 : w3.cell? ⟨w.heap.size + 1, 1, none⟩ = _ := HX3.out.two 1
                have q2 : w3.cell? ⟨w.heap.size + 1, 2, none⟩ = _ := HX3.out.two 2
                have q3 : w3.cell? ⟨w.heap.size + 1, 3, none⟩ = _ := HX3.out.two 3
                have q4 : w3.cell? ⟨w.heap.size + 1, 4, none⟩ = _ := HX3.out.two 4
                have q5 : w3.cell? ⟨w.heap.size + 1, 5, none⟩ = _ := HX3.out.two 5
                have q6 : w3.cell? ⟨w.heap.size + 1, 6, none⟩ = _ := HX3.out.two 6
                have q7 : w3.cell? ⟨w.heap.size + 1, 7, none⟩ = _ := HX3.out.two 7
                have q8 : w3.cell? ⟨w.heap.size + 1, 8, none⟩ = _ := HX3.out.two 8
                have x0 : w3.cell? ⟨SB, 0, none⟩ = _ := HA3.out.one 0
                have x1 : w3.cell? ⟨SB, 1, none⟩ = _ := HA3.out.one 1
                have x2 : w3.cell? ⟨SB, 2, none⟩ = _ := HA3.out.one 2
                have x3 : w3.cell? ⟨SB, 3, none⟩ = _ := HA3.out.one 3
                have x4 : w3.cell? ⟨SB, 4, none⟩ = _ := HA3.out.one 4
                have x5 : w3.cell? ⟨SB, 5, none⟩ = _ := HA3.out.one 5
                have x6 : w3.cell? ⟨SB, 6, none⟩ = _ := HA3.out.one 6
                have x7 : w3.cell? ⟨SB, 7, none⟩ = _ := HA3.out.one 7
                have x8 : w3.cell? ⟨SB, 8, none⟩ = _ := HA3.out.one 8
                go_wp2_with fail
                go_ret
                exact ⟨by first | rfl | simp, HX3.out.below⟩
              · obtain ⟨xb, xoff, hxo, lxb, hxr⟩ := HSX.out.row (by simp)
                obtain ⟨yb, yoff, hyo, lyb, hyr⟩ := HSY.out.row (by simp)
                subst hxo hyo
                have k1 := hxr 0 (by simp)
                have k2 := hyr 0 (by simp)
                simp only [List.getElem_cons_zero, Nat.zero_mul, Nat.add_zero] at k1 k2
                obtain ⟨m1, m2⟩ := k1
                obtain ⟨m3, m4⟩ := k2
                have M1 := fun d os => cell_regrown m1 d os
                have M2 := fun d os => cell_regrown m2 d os
                have M3 := fun d os => cell_regrown m3 d os
                have M4 := fun d os => cell_regrown m4 d os
                have HC := Hid.mk (fun (d : Nat) (os : Array Obj) => HSp.out p q (HOp.out p (List.mem_singleton.2 rfl)) (HOq.out q (List.mem_singleton.2 rfl)) (grow (redrawn W2 d) os))
                obtain ⟨sr, hsr⟩ : ∃ sr, inS p.1 p.2 q.1 q.2 = sr := ⟨_, rfl⟩
                have hsl : spL [p] [q] = sr := hsr
                have HSL := Hid.mk hsl
                rw [hsr] at HC
                clear hxr hyr hsr hsl
                cases sr with
                | false =>
                  go_wp2_with fail
                  refine wp_region_quiet_below (by kernel_rfl) (by kernel_rfl) ?_
                  repeat (go_big_quiet_step (exact Calls.regrown_of (HC.out _ _)))
                  refine wpQuiet_nil ?_
                  intro w3 hw'
                  have hb9 : Below W2.heap.size W2 w3 := by
                    obtain ⟨⟨dq, osq⟩, rfl⟩ := hw'
                    exact below_regrown W2 dq osq
                  have HX3 := Hid.mk (HX2.out.keep hb9)
                  have HA3 := Hid.mk (HA2.out.keep hb9)
                  have HP3 := Hid.mk (PXk.out _ _ _ HP2.out hb9)
                  clear hw' hb9 AQ0 AX0 AQ1 AX1 AQ2 AX2 AQ3 AX3 AQ4 AX4 AQ5 AX5 AQ6 AX6 AQ7 AX7 AQ8 AX8 M1 M2 M3 M4 m1 m2 m3 m4
                  clear q0 x0 q1 x1 q2 x2 q3 x3 q4 x4 q5 x5 q6 x6 q7 x7 q8 x8
                  have q0 : w3.cell? ⟨w.heap.size + 1, 0, none⟩ = _ := HX3.out.two 0
                  have q1 : w3.cell? ⟨w.heap.size + 1, 1, none⟩ = _ := HX3.out.two 1
                  have q2 : w3.cell? ⟨w.heap.size + 1, 2, none⟩ = _ := HX3.out.two 2
                  have q3 : w3.cell? ⟨w.heap.size + 1, 3, none⟩ = _ := HX3.out.two 3
                  have q4 : w3.cell? ⟨w.heap.size + 1, 4, none⟩ = _ := HX3.out.two 4
                  have q5 : w3.cell? ⟨w.heap.size + 1, 5, none⟩ = _ := HX3.out.two 5
                  have q6 : w3.cell? ⟨w.heap.size + 1, 6, none⟩ = _ := HX3.out.two 6
                  have q7 : w3.cell? ⟨w.heap.size + 1, 7, none⟩ = _ := HX3.out.two 7
                  have q8 : w3.cell? ⟨w.heap.size + 1, 8, none⟩ = _ := HX3.out.two 8
                  have x0 : w3.cell? ⟨SB, 0, none⟩ = _ := HA3.out.one 0
                  have x1 : w3.cell? ⟨SB, 1, none⟩ = _ := HA3.out.one 1
                  have x2 : w3.cell? ⟨SB, 2, none⟩ = _ := HA3.out.one 2
                  have x3 : w3.cell? ⟨SB, 3, none⟩ = _ := HA3.out.one 3
                  have x4 : w3.cell? ⟨SB, 4, none⟩ = _ := HA3.out.one 4
                  have x5 : w3.cell? ⟨SB, 5, none⟩ = _ := HA3.out.one 5
                  have x6 : w3.cell? ⟨SB, 6, none⟩ = _ := HA3.out.one 6
                  have x7 : w3.cell? ⟨SB, 7, none⟩ = _ := HA3.out.one 7
                  have x8 : w3.cell? ⟨SB, 8, none⟩ = _ := HA3.out.one 8
                  go_wp2_with fail
                  go_ret
                  exact ⟨by first | rfl | (simp [HSL.out]; done) | simp, HX3.out.below⟩
                | true =>
                  go_wp2_with fail
                  refine wp_region_quiet_below (by kernel_rfl) (by kernel_rfl) ?_
                  repeat (go_big_quiet_step (exact Calls.regrown_of (HC.out _ _)))
                  refine wpQuiet_nil ?_
                  intro w3 hw'
                  have hb9 : Below W2.heap.size W2 w3 := by
                    obtain ⟨⟨dq, osq⟩, rfl⟩ := hw'
                    exact below_regrown W2 dq osq
                  have HX3 := Hid.mk (HX2.out.keep hb9)
                  have HA3 := Hid.mk (HA2.out.keep hb9)
                  have HP3 := Hid.mk (PXk.out _ _ _ HP2.out hb9)
                  clear hw' hb9 AQ0 AX0 AQ1 AX1 AQ2 AX2 AQ3 AX3 AQ4 AX4 AQ5 AX5 AQ6 AX6 AQ7 AX7 AQ8 AX8 M1 M2 M3 M4 m1 m2 m3 m4
                  clear q0 x0 q1 x1 q2 x2 q3 x3 q4 x4 q5 x5 q6 x6 q7 x7 q8 x8
                  have q0 : w3.cell? ⟨w.heap.size + 1, 0, none⟩ = _ := HX3.out.two 0
                  have q1 : w3.cell? ⟨w.heap.size + 1, 1, none⟩ = _ := HX3.out.two 1
                  have q2 : w3.cell? ⟨w.heap.size + 1, 2, none⟩ = _ := HX3.out.two 2
                  have q3 : w3.cell? ⟨w.heap.size + 1, 3, none⟩ = _ := HX3.out.two 3
                  have q4 : w3.cell? ⟨w.heap.size + 1, 4, none⟩ = _ := HX3.out.two 4
                  have q5 : w3.cell? ⟨w.heap.size + 1, 5, none⟩ = _ := HX3.out.two 5
                  have q6 : w3.cell? ⟨w.heap.size + 1, 6, none⟩ = _ := HX3.out.two 6
                  have q7 : w3.cell? ⟨w.heap.size + 1, 7, none⟩ = _ := HX3.out.two 7
                  have q8 : w3.cell? ⟨w.heap.size + 1, 8, none⟩ = _ := HX3.out.two 8
                  have x0 : w3.cell? ⟨SB, 0, none⟩ = _ := HA3.out.one 0
                  have x1 : w3.cell? ⟨SB, 1, none⟩ = _ := HA3.out.one 1
                  have x2 : w3.cell? ⟨SB, 2, none⟩ = _ := HA3.out.one 2
                  have x3 : w3.cell? ⟨SB, 3, none⟩ = _ := HA3.out.one 3
                  have x4 : w3.cell? ⟨SB, 4, none⟩ = _ := HA3.out.one 4
                  have x5 : w3.cell? ⟨SB, 5, none⟩ = _ := HA3.out.one 5
                  have x6 : w3.cell? ⟨SB, 6, none⟩ = _ := HA3.out.one 6
                  have x7 : w3.cell? ⟨SB, 7, none⟩ = _ := HA3.out.one 7
                  have x8 : w3.cell? ⟨SB, 8, none⟩ = _ := HA3.out.one 8
                  go_wp2_with fail
                  refine (HTx.out _ _ HP3.out HX3.out.below).mono ?_
                  rintro e w4 ⟨rfl, hq⟩
                  have HX4 := Hid.mk (HX3.out.keep hq)
                  have HA4 := Hid.mk (HA3.out.keep hq)
                  have HP4 := Hid.mk (PXk.out _ _ _ HP3.out hq)
                  clear hq
                  clear q0 x0 q1 x1 q2 x2 q3 x3 q4 x4 q5 x5 q6 x6 q7 x7 q8 x8
                  have q0 : w4.cell? ⟨w.heap.size + 1, 0, none⟩ = _ := HX4.out.two 0
                  have q1 : w4.cell? ⟨w.heap.size + 1, 1, none⟩ = _ := HX4.out.two 1
                  have q2 : w4.cell? ⟨w.heap.size + 1, 2, none⟩ = _ := HX4.out.two 2
                  have q3 : w4.cell? ⟨w.heap.size + 1, 3, none⟩ = _ := HX4.out.two 3
                  have q4 : w4.cell? ⟨w.heap.size + 1, 4, none⟩ = _ := HX4.out.two 4
                  have q5 : w4.cell? ⟨w.heap.size + 1, 5, none⟩ = _ := HX4.out.two 5
                  have q6 : w4.cell? ⟨w.heap.size + 1, 6, none⟩ = _ := HX4.out.two 6
                  have q7 : w4.cell? ⟨w.heap.size + 1, 7, none⟩ = _ := HX4.out.two 7
                  have q8 : w4.cell? ⟨w.heap.size + 1, 8, none⟩ = _ := HX4.out.two 8
                  have x0 : w4.cell? ⟨SB, 0, none⟩ = _ := HA4.out.one 0
                  have x1 : w4.cell? ⟨SB, 1, none⟩ = _ := HA4.out.one 1
                  have x2 : w4.cell? ⟨SB, 2, none⟩ = _ := HA4.out.one 2
                  have x3 : w4.cell? ⟨SB, 3, none⟩ = _ := HA4.out.one 3
                  have x4 : w4.cell? ⟨SB, 4, none⟩ = _ := HA4.out.one 4
                  have x5 : w4.cell? ⟨SB, 5, none⟩ = _ := HA4.out.one 5
                  have x6 : w4.cell? ⟨SB, 6, none⟩ = _ := HA4.out.one 6
                  have x7 : w4.cell? ⟨SB, 7, none⟩ = _ := HA4.out.one 7
                  have x8 : w4.cell? ⟨SB, 8, none⟩ = _ := HA4.out.one 8
                  cases tx with
                  | false =>
                    go_wp2_with fail
                    go_ret
                    exact ⟨by first | rfl | (simp [HSL.out]; done) | simp, HX4.out.below⟩
                  | true =>
                    go_wp2_with fail
                    refine (HAr.out _ _ HP4.out HX4.out.below).mono ?_
                    rintro e w5 ⟨rfl, hq⟩
                    have HX5 := Hid.mk (HX4.out.keep hq)
                    have HA5 := Hid.mk (HA4.out.keep hq)
                    have HP5 := Hid.mk (PXk.out _ _ _ HP4.out hq)
                    clear hq
                    clear q0 x0 q1 x1 q2 x2 q3 x3 q4 x4 q5 x5 q6 x6 q7 x7 q8 x8
                    have q0 : w5.cell? ⟨w.heap.size + 1, 0, none⟩ = _ := HX5.out.two 0
                    have q1 : w5.cell? ⟨w.heap.size + 1, 1, none⟩ = _ := HX5.out.two 1
                    have q2 : w5.cell? ⟨w.heap.size + 1, 2, none⟩ = _ := HX5.out.two 2
                    have q3 : w5.cell? ⟨w.heap.size + 1, 3, none⟩ = _ := HX5.out.two 3
                    have q4 : w5.cell? ⟨w.heap.size + 1, 4, none⟩ = _ := HX5.out.two 4
                    have q5 : w5.cell? ⟨w.heap.size + 1, 5, none⟩ = _ := HX5.out.two 5
                    have q6 : w5.cell? ⟨w.heap.size + 1, 6, none⟩ = _ := HX5.out.two 6
                    have q7 : w5.cell? ⟨w.heap.size + 1, 7, none⟩ = _ := HX5.out.two 7
                    have q8 : w5.cell? ⟨w.heap.size + 1, 8, none⟩ = _ := HX5.out.two 8
                    have x0 : w5.cell? ⟨SB, 0, none⟩ = _ := HA5.out.one 0
                    have x1 : w5.cell? ⟨SB, 1, none⟩ = _ := HA5.out.one 1
                    have x2 : w5.cell? ⟨SB, 2, none⟩ = _ := HA5.out.one 2
                    have x3 : w5.cell? ⟨SB, 3, none⟩ = _ := HA5.out.one 3
                    have x4 : w5.cell? ⟨SB, 4, none⟩ = _ := HA5.out.one 4
                    have x5 : w5.cell? ⟨SB, 5, none⟩ = _ := HA5.out.one 5
                    have x6 : w5.cell? ⟨SB, 6, none⟩ = _ := HA5.out.one 6
                    have x7 : w5.cell? ⟨SB, 7, none⟩ = _ := HA5.out.one 7
                    have x8 : w5.cell? ⟨SB, 8, none⟩ = _ := HA5.out.one 8
                    cases ar with
                    | false =>
                      go_wp2_with fail
                      go_ret
                      exact ⟨by first | rfl | (simp [HSL.out]; done) | simp, HX5.out.below⟩
                    | true =>
                      go_wp2_with fail
                      refine (HOb.out _ _ HP5.out HX5.out.below).mono ?_
                      rintro e w6 ⟨rfl, hq⟩
                      have HX6 := Hid.mk (HX5.out.keep hq)
                      have HA6 := Hid.mk (HA5.out.keep hq)
                      have HP6 := Hid.mk (PXk.out _ _ _ HP5.out hq)
                      clear hq
                      clear q0 x0 q1 x1 q2 x2 q3 x3 q4 x4 q5 x5 q6 x6 q7 x7 q8 x8
                      have q0 : w6.cell? ⟨w.heap.size + 1, 0, none⟩ = _ := HX6.out.two 0
                      have q1 : w6.cell? ⟨w.heap.size + 1, 1, none⟩ = _ := HX6.out.two 1
                      have q2 : w6.cell? ⟨w.heap.size + 1, 2, none⟩ = _ := HX6.out.two 2
                      have q3 : w6.cell? ⟨w.heap.size + 1, 3, none⟩ = _ := HX6.out.two 3
                      have q4 : w6.cell? ⟨w.heap.size + 1, 4, none⟩ = _ := HX6.out.two 4
                      have q5 : w6.cell? ⟨w.heap.size + 1, 5, none⟩ = _ := HX6.out.two 5
                      have q6 : w6.cell? ⟨w.heap.size + 1, 6, none⟩ = _ := HX6.out.two 6
                      have q7 : w6.cell? ⟨w.heap.size + 1, 7, none⟩ = _ := HX6.out.two 7
                      have q8 : w6.cell? ⟨w.heap.size + 1, 8, none⟩ = _ := HX6.out.two 8
                      have x0 : w6.cell? ⟨SB, 0, none⟩ = _ := HA6.out.one 0
                      have x1 : w6.cell? ⟨SB, 1, none⟩ = _ := HA6.out.one 1
                      have x2 : w6.cell? ⟨SB, 2, none⟩ = _ := HA6.out.one 2
                      have x3 : w6.cell? ⟨SB, 3, none⟩ = _ := HA6.out.one 3
                      have x4 : w6.cell? ⟨SB, 4, none⟩ = _ := HA6.out.one 4
                      have x5 : w6.cell? ⟨SB, 5, none⟩ = _ := HA6.out.one 5
                      have x6 : w6.cell? ⟨SB, 6, none⟩ = _ := HA6.out.one 6
                      have x7 : w6.cell? ⟨SB, 7, none⟩ = _ := HA6.out.one 7
                      have x8 : w6.cell? ⟨SB, 8, none⟩ = _ := HA6.out.one 8
                      go_wp2_with fail
                      go_ret
                      exact ⟨by first | rfl | (simp [HSL.out]; done) | simp, HX6.out.below⟩
          | true =>
            cases td with
            | false =>
              go_wp2_with fail
              go_ret
              exact ⟨by first | rfl | simp, HX2.out.below⟩
            | true =>
              have AQ0 := fun d os => cell_regrown q0 d os
              have AX0 := fun d os => cell_regrown x0 d os
              have AQ1 := fun d os => cell_regrown q1 d os
              have AX1 := fun d os => cell_regrown x1 d os
              have AQ2 := fun d os => cell_regrown q2 d os
              have AX2 := fun d os => cell_regrown x2 d os
              have AQ3 := fun d os => cell_regrown q3 d os
              have AX3 := fun d os => cell_regrown x3 d os
              have AQ4 := fun d os => cell_regrown q4 d os
              have AX4 := fun d os => cell_regrown x4 d os
              have AQ5 := fun d os => cell_regrown q5 d os
              have AX5 := fun d os => cell_regrown x5 d os
              have AQ6 := fun d os => cell_regrown q6 d os
              have AX6 := fun d os => cell_regrown x6 d os
              have AQ7 := fun d os => cell_regrown q7 d os
              have AX7 := fun d os => cell_regrown x7 d os
              have AQ8 := fun d os => cell_regrown q8 d os
              have AX8 := fun d os => cell_regrown x8 d os
              rcases HPS.out with ⟨rfl, rfl⟩ | ⟨p, rfl, rfl⟩
              · have HC := Hid.mk (fun (d : Nat) (os : Array Obj) => HSp.out (.empty, .empty) (.empty, .empty) okS0 okS0 (grow (redrawn W2 d) os))
                go_wp2_with fail
                refine wp_region_quiet_below (by kernel_rfl) (by kernel_rfl) ?_
                repeat (go_big_quiet_step (exact Calls.regrown_of (HC.out _ _)))
                refine wpQuiet_nil ?_
                intro w3 hw'
                have hb9 : Below W2.heap.size W2 w3 := by
                  obtain ⟨⟨dq, osq⟩, rfl⟩ := hw'
                  exact below_regrown W2 dq osq
                have HX3 := Hid.mk (HX2.out.keep hb9)
                have HA3 := Hid.mk (HA2.out.keep hb9)
                have HP3 := Hid.mk (PXk.out _ _ _ HP2.out hb9)
                clear hw' hb9 AQ0 AX0 AQ1 AX1 AQ2 AX2 AQ3 AX3 AQ4 AX4 AQ5 AX5 AQ6 AX6 AQ7 AX7 AQ8 AX8
                clear q0 x0 q1 x1 q2 x2 q3 x3 q4 x4 q5 x5 q6 x6 q7 x7 q8 x8
                have q0 : w3.cell? ⟨w.heap.size + 1, 0, none⟩ = _ := HX3.out.two 0
                have q1 : w3.cell? ⟨w.heap.size + 1, 1, none⟩ = _ := HX3.out.two 1
                have q2 : w3.cell? ⟨w.heap.size + 1, 2, none⟩ = _ := HX3.out.two 2
                have q3 : w3.cell? ⟨w.heap.size + 1, 3, none⟩ = _ := HX3.out.two 3
                have q4 : w3.cell? ⟨w.heap.size + 1, 4, none⟩ = _ := HX3.out.two 4
                have q5 : w3.cell? ⟨w.heap.size + 1, 5, none⟩ = _ := HX3.out.two 5
                have q6 : w3.cell? ⟨w.heap.size + 1, 6, none⟩ = _ := HX3.out.two 6
                have q7 : w3.cell? ⟨w.heap.size + 1, 7, none⟩ = _ := HX3.out.two 7
                have q8 : w3.cell? ⟨w.heap.size + 1, 8, none⟩ = _ := HX3.out.two 8
                have x0 : w3.cell? ⟨SB, 0, none⟩ = _ := HA3.out.one 0
                have x1 : w3.cell? ⟨SB, 1, none⟩ = _ := HA3.out.one 1
                have x2 : w3.cell? ⟨SB, 2, none⟩ = _ := HA3.out.one 2
                have x3 : w3.cell? ⟨SB, 3, none⟩ = _ := HA3.out.one 3
                have x4 : w3.cell? ⟨SB, 4, none⟩ = _ := HA3.out.one 4
                have x5 : w3.cell? ⟨SB, 5, none⟩ = _ := HA3.out.one 5
                have x6 : w3.cell? ⟨SB, 6, none⟩ = _ := HA3.out.one 6
                have x7 : w3.cell? ⟨SB, 7, none⟩ = _ := HA3.out.one 7
                have x8 : w3.cell? ⟨SB, 8, none⟩ = _ := HA3.out.one 8
                go_wp2_with fail
                refine (HTx.out _ _ HP3.out HX3.out.below).mono ?_
                rintro e w4 ⟨rfl, hq⟩
                have HX4 := Hid.mk (HX3.out.keep hq)
                have HA4 := Hid.mk (HA3.out.keep hq)
                have HP4 := Hid.mk (PXk.out _ _ _ HP3.out hq)
                clear hq
                clear q0 x0 q1 x1 q2 x2 q3 x3 q4 x4 q5 x5 q6 x6 q7 x7 q8 x8
                have q0 : w4.cell? ⟨w.heap.size + 1, 0, none⟩ = _ := HX4.out.two 0
                have q1 : w4.cell? ⟨w.heap.size + 1, 1, none⟩ = _ := HX4.out.two 1
                have q2 : w4.cell? ⟨w.heap.size + 1, 2, none⟩ = _ := HX4.out.two 2
                have q3 : w4.cell? ⟨w.heap.size + 1, 3, none⟩ = _ := HX4.out.two 3
                have q4 : w4.cell? ⟨w.heap.size + 1, 4, none⟩ = _ := HX4.out.two 4
                have q5 : w4.cell? ⟨w.heap.size + 1, 5, none⟩ = _ := HX4.out.two 5
                have q6 : w4.cell? ⟨w.heap.size + 1, 6, none⟩ = _ := HX4.out.two 6
                have q7 : w4.cell? ⟨w.heap.size + 1, 7, none⟩ = _ := HX4.out.two 7
                have q8 : w4.cell? ⟨w.heap.size + 1, 8, none⟩ = _ := HX4.out.two 8
                have x0 : w4.cell? ⟨SB, 0, none⟩ = _ := HA4.out.one 0
                have x1 : w4.cell? ⟨SB, 1, none⟩ = _ := HA4.out.one 1
                have x2 : w4.cell? ⟨SB, 2, none⟩ = _ := HA4.out.one 2
                have x3 : w4.cell? ⟨SB, 3, none⟩ = _ := HA4.out.one 3
                have x4 : w4.cell? ⟨SB, 4, none⟩ = _ := HA4.out.one 4
                have x5 : w4.cell? ⟨SB, 5, none⟩ = _ := HA4.out.one 5
                have x6 : w4.cell? ⟨SB, 6, none⟩ = _ := HA4.out.one 6
                have x7 : w4.cell? ⟨SB, 7, none⟩ = _ := HA4.out.one 7
                have x8 : w4.cell? ⟨SB, 8, none⟩ = _ := HA4.out.one 8
                cases tx with
                | false =>
                  go_wp2_with fail
                  go_ret
                  exact ⟨by first | rfl | simp, HX4.out.below⟩
                | true =>
                  go_wp2_with fail
                  refine (HAr.out _ _ HP4.out HX4.out.below).mono ?_
                  rintro e w5 ⟨rfl, hq⟩
                  have HX5 := Hid.mk (HX4.out.keep hq)
                  have HA5 := Hid.mk (HA4.out.keep hq)
                  have HP5 := Hid.mk (PXk.out _ _ _ HP4.out hq)
                  clear hq
                  clear q0 x0 q1 x1 q2 x2 q3 x3 q4 x4 q5 x5 q6 x6 q7 x7 q8 x8
                  have q0 : w5.cell? ⟨w.heap.size + 1, 0, none⟩ = _ := HX5.out.two 0
                  have q1 : w5.cell? ⟨w.heap.size + 1, 1, none⟩ = _ := HX5.out.two 1
                  have q2 : w5.cell? ⟨w.heap.size + 1, 2, none⟩ = _ := HX5.out.two 2
                  have q3 : w5.cell? ⟨w.heap.size + 1, 3, none⟩ = _ := HX5.out.two 3
                  have q4 : w5.cell? ⟨w.heap.size + 1, 4, none⟩ = _ := HX5.out.two 4
                  have q5 : w5.cell? ⟨w.heap.size + 1, 5, none⟩ = _ := HX5.out.two 5
                  have q6 : w5.cell? ⟨w.heap.size + 1, 6, none⟩ = _ := HX5.out.two 6
                  have q7 : w5.cell? ⟨w.heap.size + 1, 7, none⟩ = _ := HX5.out.two 7
                  have q8 : w5.cell? ⟨w.heap.size + 1, 8, none⟩ = _ := HX5.out.two 8
                  have x0 : w5.cell? ⟨SB, 0, none⟩ = _ := HA5.out.one 0
                  have x1 : w5.cell? ⟨SB, 1, none⟩ = _ := HA5.out.one 1
                  have x2 : w5.cell? ⟨SB, 2, none⟩ = _ := HA5.out.one 2
                  have x3 : w5.cell? ⟨SB, 3, none⟩ = _ := HA5.out.one 3
                  have x4 : w5.cell? ⟨SB, 4, none⟩ = _ := HA5.out.one 4
                  have x5 : w5.cell? ⟨SB, 5, none⟩ = _ := HA5.out.one 5
                  have x6 : w5.cell? ⟨SB, 6, none⟩ = _ := HA5.out.one 6
                  have x7 : w5.cell? ⟨SB, 7, none⟩ = _ := HA5.out.one 7
                  have x8 : w5.cell? ⟨SB, 8, none⟩ = _ := HA5.out.one 8
                  cases ar with
                  | false =>
                    go_wp2_with fail
                    go_ret
                    exact ⟨by first | rfl | simp, HX5.out.below⟩
                  | true =>
                    go_wp2_with fail
                    refine (HOb.out _ _ HP5.out HX5.out.below).mono ?_
                    rintro e w6 ⟨rfl, hq⟩
                    have HX6 := Hid.mk (HX5.out.keep hq)
                    have HA6 := Hid.mk (HA5.out.keep hq)
                    have HP6 := Hid.mk (PXk.out _ _ _ HP5.out hq)
                    clear hq
                    clear q0 x0 q1 x1 q2 x2 q3 x3 q4 x4 q5 x5 q6 x6 q7 x7 q8 x8
                    have q0 : w6.cell? ⟨w.heap.size + 1, 0, none⟩ = _ := HX6.out.two 0
                    have q1 : w6.cell? ⟨w.heap.size + 1, 1, none⟩ = _ := HX6.out.two 1
                    have q2 : w6.cell? ⟨w.heap.size + 1, 2, none⟩ = _ := HX6.out.two 2
                    have q3 : w6.cell? ⟨w.heap.size + 1, 3, none⟩ = _ := HX6.out.two 3
                    have q4 : w6.cell? ⟨w.heap.size + 1, 4, none⟩ = _ := HX6.out.two 4
                    have q5 : w6.cell? ⟨w.heap.size + 1, 5, none⟩ = _ := HX6.out.two 5
                    have q6 : w6.cell? ⟨w.heap.size + 1, 6, none⟩ = _ := HX6.out.two 6
                    have q7 : w6.cell? ⟨w.heap.size + 1, 7, none⟩ = _ := HX6.out.two 7
                    have q8 : w6.cell? ⟨w.heap.size + 1, 8, none⟩ = _ := HX6.out.two 8
                    have x0 : w6.cell? ⟨SB, 0, none⟩ = _ := HA6.out.one 0
                    have x1 : w6.cell? ⟨SB, 1, none⟩ = _ := HA6.out.one 1
                    have x2 : w6.cell? ⟨SB, 2, none⟩ = _ := HA6.out.one 2
                    have x3 : w6.cell? ⟨SB, 3, none⟩ = _ := HA6.out.one 3
                    have x4 : w6.cell? ⟨SB, 4, none⟩ = _ := HA6.out.one 4
                    have x5 : w6.cell? ⟨SB, 5, none⟩ = _ := HA6.out.one 5
                    have x6 : w6.cell? ⟨SB, 6, none⟩ = _ := HA6.out.one 6
                    have x7 : w6.cell? ⟨SB, 7, none⟩ = _ := HA6.out.one 7
                    have x8 : w6.cell? ⟨SB, 8, none⟩ = _ := HA6.out.one 8
                    go_wp2_with fail
                    go_ret
                    exact ⟨by first | rfl | simp, HX6.out.below⟩
              · rcases HQS.out with ⟨rfl, rfl⟩ | ⟨q, rfl, rfl⟩
                · have HC := Hid.mk (fun (d : Nat) (os : Array Obj) => HSp.out (.empty, .empty) (.empty, .empty) okS0 okS0 (grow (redrawn W2 d) os))
                  go_wp2_with fail
                  refine wp_region_quiet_below (by kernel_rfl) (by kernel_rfl) ?_
                  repeat (go_big_quiet_step (exact Calls.regrown_of (HC.out _ _)))
                  refine wpQuiet_nil ?_
                  intro w3 hw'
                  have hb9 : Below W2.heap.size W2 w3 := by
                    obtain ⟨⟨dq, osq⟩, rfl⟩ := hw'
                    exact below_regrown W2 dq osq
                  have HX3 := Hid.mk (HX2.out.keep hb9)
                  have HA3 := Hid.mk (HA2.out.keep hb9)
                  have HP3 := Hid.mk (PXk.out _ _ _ HP2.out hb9)
                  clear hw' hb9 AQ0 AX0 AQ1 AX1 AQ2 AX2 AQ3 AX3 AQ4 AX4 AQ5 AX5 AQ6 AX6 AQ7 AX7 AQ8 AX8
                  clear q0 x0 q1 x1 q2 x2 q3 x3 q4 x4 q5 x5 q6 x6 q7 x7 q8 x8
                  have q0 : w3.cell? ⟨w.heap.size + 1, 0, none⟩ = _ := HX3.out.two 0
                  have q1 : w3.cell? ⟨w.heap.size + 1, 1, none⟩ = _ := HX3.out.two 1
                  have q2 : w3.cell? ⟨w.heap.size + 1, 2, none⟩ = _ := HX3.out.two 2
                  have q3 : w3.cell? ⟨w.heap.size + 1, 3, none⟩ = _ := HX3.out.two 3
                  have q4 : w3.cell? ⟨w.heap.size + 1, 4, none⟩ = _ := HX3.out.two 4
                  have q5 : w3.cell? ⟨w.heap.size + 1, 5, none⟩ = _ := HX3.out.two 5
                  have q6 : w3.cell? ⟨w.heap.size + 1, 6, none⟩ = _ := HX3.out.two 6
                  have q7 : w3.cell? ⟨w.heap.size + 1, 7, none⟩ = _ := HX3.out.two 7
                  have q8 : w3.cell? ⟨w.heap.size + 1, 8, none⟩ = _ := HX3.out.two 8
                  have x0 : w3.cell? ⟨SB, 0, none⟩ = _ := HA3.out.one 0
                  have x1 : w3.cell? ⟨SB, 1, none⟩ = _ := HA3.out.one 1
                  have x2 : w3.cell? ⟨SB, 2, none⟩ = _ := HA3.out.one 2
                  have x3 : w3.cell? ⟨SB, 3, none⟩ = _ := HA3.out.one 3
                  have x4 : w3.cell? ⟨SB, 4, none⟩ = _ := HA3.out.one 4
                  have x5 : w3.cell? ⟨SB, 5, none⟩ = _ := HA3.out.one 5
                  have x6 : w3.cell? ⟨SB, 6, none⟩ = _ := HA3.out.one 6
                  have x7 : w3.cell? ⟨SB, 7, none⟩ = _ := HA3.out.one 7
                  have x8 : w3.cell? ⟨SB, 8, none⟩ = _ := HA3.out.one 8
                  go_wp2_with fail
                  go_ret
                  exact ⟨by first | rfl | simp, HX3.out.below⟩
                · obtain ⟨xb, xoff, hxo, lxb, hxr⟩ := HSX.out.row (by simp)
                  obtain ⟨yb, yoff, hyo, lyb, hyr⟩ := HSY.out.row (by simp)
                  subst hxo hyo
                  have k1 := hxr 0 (by simp)
                  have k2 := hyr 0 (by simp)
                  simp only [List.getElem_cons_zero, Nat.zero_mul, Nat.add_zero] at k1 k2
                  obtain ⟨m1, m2⟩ := k1
                  obtain ⟨m3, m4⟩ := k2
                  have M1 := fun d os => cell_regrown m1 d os
                  have M2 := fun d os => cell_regrown m2 d os
                  have M3 := fun d os => cell_regrown m3 d os
                  have M4 := fun d os => cell_regrown m4 d os
                  have HC := Hid.mk (fun (d : Nat) (os : Array Obj) => HSp.out p q (HOp.out p (List.mem_singleton.2 rfl)) (HOq.out q (List.mem_singleton.2 rfl)) (grow (redrawn W2 d) os))
                  obtain ⟨sr, hsr⟩ : ∃ sr, inS p.1 p.2 q.1 q.2 = sr := ⟨_, rfl⟩
                  have hsl : spL [p] [q] = sr := hsr
                  have HSL := Hid.mk hsl
                  rw [hsr] at HC
                  clear hxr hyr hsr hsl
                  cases sr with
                  | false =>
                    go_wp2_with fail
                    refine wp_region_quiet_below (by kernel_rfl) (by kernel_rfl) ?_
                    repeat (go_big_quiet_step (exact Calls.regrown_of (HC.out _ _)))
                    refine wpQuiet_nil ?_
                    intro w3 hw'
                    have hb9 : Below W2.heap.size W2 w3 := by
                      obtain ⟨⟨dq, osq⟩, rfl⟩ := hw'
                      exact below_regrown W2 dq osq
                    have HX3 := Hid.mk (HX2.out.keep hb9)
                    have HA3 := Hid.mk (HA2.out.keep hb9)
                    have HP3 := Hid.mk (PXk.out _ _ _ HP2.out hb9)
                    clear hw' hb9 AQ0 AX0 AQ1 AX1 AQ2 AX2 AQ3 AX3 AQ4 AX4 AQ5 AX5 AQ6 AX6 AQ7 AX7 AQ8 AX8 M1 M2 M3 M4 m1 m2 m3 m4
                    clear q0 x0 q1 x1 q2 x2 q3 x3 q4 x4 q5 x5 q6 x6 q7 x7 q8 x8
                    have q0 : w3.cell? ⟨w.heap.size + 1, 0, none⟩ = _ := HX3.out.two 0
                    have q1 : w3.cell? ⟨w.heap.size + 1, 1, none⟩ = _ := HX3.out.two 1
                    have q2 : w3.cell? ⟨w.heap.size + 1, 2, none⟩ = _ := HX3.out.two 2
                    have q3 : w3.cell? ⟨w.heap.size + 1, 3, none⟩ = _ := HX3.out.two 3
                    have q4 : w3.cell? ⟨w.heap.size + 1, 4, none⟩ = _ := HX3.out.two 4
                    have q5 : w3.cell? ⟨w.heap.size + 1, 5, none⟩ = _ := HX3.out.two 5
                    have q6 : w3.cell? ⟨w.heap.size + 1, 6, none⟩ = _ := HX3.out.two 6
                    have q7 : w3.cell? ⟨w.heap.size + 1, 7, none⟩ = _ := HX3.out.two 7
                    have q8 : w3.cell? ⟨w.heap.size + 1, 8, none⟩ = _ := HX3.out.two 8
                    have x0 : w3.cell? ⟨SB, 0, none⟩ = _ := HA3.out.one 0
                    have x1 : w3.cell? ⟨SB, 1, none⟩ = _ := HA3.out.one 1
                    have x2 : w3.cell? ⟨SB, 2, none⟩ = _ := HA3.out.one 2
                    have x3 : w3.cell? ⟨SB, 3, none⟩ = _ := HA3.out.one 3
                    have x4 : w3.cell? ⟨SB, 4, none⟩ = _ := HA3.out.one 4
                    have x5 : w3.cell? ⟨SB, 5, none⟩ = _ := HA3.out.one 5
                    have x6 : w3.cell? ⟨SB, 6, none⟩ = _ := HA3.out.one 6
                    have x7 : w3.cell? ⟨SB, 7, none⟩ = _ := HA3.out.one 7
                    have x8 : w3.cell? ⟨SB, 8, none⟩ = _ := HA3.out.one 8
                    go_wp2_with fail
                    go_ret
                    exact ⟨by first | rfl | (simp [HSL.out]; done) | simp, HX3.out.below⟩
                  | true =>
                    go_wp2_with fail
                    refine wp_region_quiet_below (by kernel_rfl) (by kernel_rfl) ?_
                    repeat (go_big_quiet_step (exact Calls.regrown_of (HC.out _ _)))
                    refine wpQuiet_nil ?_
                    intro w3 hw'
                    have hb9 : Below W2.heap.size W2 w3 := by
                      obtain ⟨⟨dq, osq⟩, rfl⟩ := hw'
                      exact below_regrown W2 dq osq
                    have HX3 := Hid.mk (HX2.out.keep hb9)
                    have HA3 := Hid.mk (HA2.out.keep hb9)
                    have HP3 := Hid.mk (PXk.out _ _ _ HP2.out hb9)
                    clear hw' hb9 AQ0 AX0 AQ1 AX1 AQ2 AX2 AQ3 AX3 AQ4 AX4 AQ5 AX5 AQ6 AX6 AQ7 AX7 AQ8 AX8 M1 M2 M3 M4 m1 m2 m3 m4
                    clear q0 x0 q1 x1 q2 x2 q3 x3 q4 x4 q5 x5 q6 x6 q7 x7 q8 x8
                    have q0 : w3.cell? ⟨w.heap.size + 1, 0, none⟩ = _ := HX3.out.two 0
                    have q1 : w3.cell? ⟨w.heap.size + 1, 1, none⟩ = _ := HX3.out.two 1
                    have q2 : w3.cell? ⟨w.heap.size + 1, 2, none⟩ = _ := HX3.out.two 2
                    have q3 : w3.cell? ⟨w.heap.size + 1, 3, none⟩ = _ := HX3.out.two 3
                    have q4 : w3.cell? ⟨w.heap.size + 1, 4, none⟩ = _ := HX3.out.two 4
                    have q5 : w3.cell? ⟨w.heap.size + 1, 5, none⟩ = _ := HX3.out.two 5
                    have q6 : w3.cell? ⟨w.heap.size + 1, 6, none⟩ = _ := HX3.out.two 6
                    have q7 : w3.cell? ⟨w.heap.size + 1, 7, none⟩ = _ := HX3.out.two 7
                    have q8 : w3.cell? ⟨w.heap.size + 1, 8, none⟩ = _ := HX3.out.two 8
                    have x0 : w3.cell? ⟨SB, 0, none⟩ = _ := HA3.out.one 0
                    have x1 : w3.cell? ⟨SB, 1, none⟩ = _ := HA3.out.one 1
                    have x2 : w3.cell? ⟨SB, 2, none⟩ = _ := HA3.out.one 2
                    have x3 : w3.cell? ⟨SB, 3, none⟩ = _ := HA3.out.one 3
                    have x4 : w3.cell? ⟨SB, 4, none⟩ = _ := HA3.out.one 4
                    have x5 : w3.cell? ⟨SB, 5, none⟩ = _ := HA3.out.one 5
                    have x6 : w3.cell? ⟨SB, 6, none⟩ = _ := HA3.out.one 6
                    have x7 : w3.cell? ⟨SB, 7, none⟩ = _ := HA3.out.one 7
                    have x8 : w3.cell? ⟨SB, 8, none⟩ = _ := HA3.out.one 8
                    go_wp2_with fail
                    refine (HTx.out _ _ HP3.out HX3.out.below).mono ?_
                    rintro e w4 ⟨rfl, hq⟩
                    have HX4 := Hid.mk (HX3.out.keep hq)
                    have HA4 := Hid.mk (HA3.out.keep hq)
                    have HP4 := Hid.mk (PXk.out _ _ _ HP3.out hq)
                    clear hq
                    clear q0 x0 q1 x1 q2 x2 q3 x3 q4 x4 q5 x5 q6 x6 q7 x7 q8 x8
                    have q0 : w4.cell? ⟨w.heap.size + 1, 0, none⟩ = _ := HX4.out.two 0
                    have q1 : w4.cell? ⟨w.heap.size + 1, 1, none⟩ = _ := HX4.out.two 1
                    have q2 : w4.cell? ⟨w.heap.size + 1, 2, none⟩ = _ := HX4.out.two 2
                    have q3 : w4.cell? ⟨w.heap.size + 1, 3, none⟩ = _ := HX4.out.two 3
                    have q4 : w4.cell? ⟨w.heap.size + 1, 4, none⟩ = _ := HX4.out.two 4
                    have q5 : w4.cell? ⟨w.heap.size + 1, 5, none⟩ = _ := HX4.out.two 5
                    have q6 : w4.cell? ⟨w.heap.size + 1, 6, none⟩ = _ := HX4.out.two 6
                    have q7 : w4.cell? ⟨w.heap.size + 1, 7, none⟩ = _ := HX4.out.two 7
                    have q8 : w4.cell? ⟨w.heap.size + 1, 8, none⟩ = _ := HX4.out.two 8
                    have x0 : w4.cell? ⟨SB, 0, none⟩ = _ := HA4.out.one 0
                    have x1 : w4.cell? ⟨SB, 1, none⟩ = _ := HA4.out.one 1
                    have x2 : w4.cell? ⟨SB, 2, none⟩ = _ := HA4.out.one 2
                    have x3 : w4.cell? ⟨SB, 3, none⟩ = _ := HA4.out.one 3
                    have x4 : w4.cell? ⟨SB, 4, none⟩ = _ := HA4.out.one 4
                    have x5 : w4.cell? ⟨SB, 5, none⟩ = _ := HA4.out.one 5
                    have x6 : w4.cell? ⟨SB, 6, none⟩ = _ := HA4.out.one 6
                    have x7 : w4.cell? ⟨SB, 7, none⟩ = _ := HA4.out.one 7
                    have x8 : w4.cell? ⟨SB, 8, none⟩ = _ := HA4.out.one 8
                    cases tx with
                    | false =>
                      go_wp2_with fail
                      go_ret
                      exact ⟨by first | rfl | (simp [HSL.out]; done) | simp, HX4.out.below⟩
                    | true =>
                      go_wp2_with fail
                      refine (HAr.out _ _ HP4.out HX4.out.below).mono ?_
                      rintro e w5 ⟨rfl, hq⟩
                      have HX5 := Hid.mk (HX4.out.keep hq)
                      have HA5 := Hid.mk (HA4.out.keep hq)
                      have HP5 := Hid.mk (PXk.out _ _ _ HP4.out hq)
                      clear hq
                      clear q0 x0 q1 x1 q2 x2 q3 x3 q4 x4 q5 x5 q6 x6 q7 x7 q8 x8
                      have q0 : w5.cell? ⟨w.heap.size + 1, 0, none⟩ = _ := HX5.out.two 0
                      have q1 : w5.cell? ⟨w.heap.size + 1, 1, none⟩ = _ := HX5.out.two 1
                      have q2 : w5.cell? ⟨w.heap.size + 1, 2, none⟩ = _ := HX5.out.two 2
                      have q3 : w5.cell? ⟨w.heap.size + 1, 3, none⟩ = _ := HX5.out.two 3
                      have q4 : w5.cell? ⟨w.heap.size + 1, 4, none⟩ = _ := HX5.out.two 4
                      have q5 : w5.cell? ⟨w.heap.size + 1, 5, none⟩ = _ := HX5.out.two 5
                      have q6 : w5.cell? ⟨w.heap.size + 1, 6, none⟩ = _ := HX5.out.two 6
                      have q7 : w5.cell? ⟨w.heap.size + 1, 7, none⟩ = _ := HX5.out.two 7
                      have q8 : w5.cell? ⟨w.heap.size + 1, 8, none⟩ = _ := HX5.out.two 8
                      have x0 : w5.cell? ⟨SB, 0, none⟩ = _ := HA5.out.one 0
                      have x1 : w5.cell? ⟨SB, 1, none⟩ = _ := HA5.out.one 1
                      have x2 : w5.cell? ⟨SB, 2, none⟩ = _ := HA5.out.one 2
                      have x3 : w5.cell? ⟨SB, 3, none⟩ = _ := HA5.out.one 3
                      have x4 : w5.cell? ⟨SB, 4, none⟩ = _ := HA5.out.one 4
                      have x5 : w5.cell? ⟨SB, 5, none⟩ = _ := HA5.out.one 5
                      have x6 : w5.cell? ⟨SB, 6, none⟩ = _ := HA5.out.one 6
                      have x7 : w5.cell? ⟨SB, 7, none⟩ = _ := HA5.out.one 7
                      have x8 : w5.cell? ⟨SB, 8, none⟩ = _ := HA5.out.one 8
                      cases ar with
                      | false =>
                        go_wp2_with fail
                        go_ret
                        exact ⟨by first | rfl | (simp [HSL.out]; done) | simp, HX5.out.below⟩
                      | true =>
                        go_wp2_with fail
                        refine (HOb.out _ _ HP5.out HX5.out.below).mono ?_
                        rintro e w6 ⟨rfl, hq⟩
                        have HX6 := Hid.mk (HX5.out.keep hq)
                        have HA6 := Hid.mk (HA5.out.keep hq)
                        have HP6 := Hid.mk (PXk.out _ _ _ HP5.out hq)
                        clear hq
                        clear q0 x0 q1 x1 q2 x2 q3 x3 q4 x4 q5 x5 q6 x6 q7 x7 q8 x8
                        have q0 : w6.cell? ⟨w.heap.size + 1, 0, none⟩ = _ := HX6.out.two 0
                        have q1 : w6.cell? ⟨w.heap.size + 1, 1, none⟩ = _ := HX6.out.two 1
                        have q2 : w6.cell? ⟨w.heap.size + 1, 2, none⟩ = _ := HX6.out.two 2
                        have q3 : w6.cell? ⟨w.heap.size + 1, 3, none⟩ = _ := HX6.out.two 3
                        have q4 : w6.cell? ⟨w.heap.size + 1, 4, none⟩ = _ := HX6.out.two 4
                        have q5 : w6.cell? ⟨w.heap.size + 1, 5, none⟩ = _ := HX6.out.two 5
                        have q6 : w6.cell? ⟨w.heap.size + 1, 6, none⟩ = _ := HX6.out.two 6
                        have q7 : w6.cell? ⟨w.heap.size + 1, 7, none⟩ = _ := HX6.out.two 7
                        have q8 : w6.cell? ⟨w.heap.size + 1, 8, none⟩ = _ := HX6.out.two 8
                        have x0 : w6.cell? ⟨SB, 0, none⟩ = _ := HA6.out.one 0
                        have x1 : w6.cell? ⟨SB, 1, none⟩ = _ := HA6.out.one 1
                        have x2 : w6.cell? ⟨SB, 2, none⟩ = _ := HA6.out.one 2
                        have x3 : w6.cell? ⟨SB, 3, none⟩ = _ := HA6.out.one 3
                        have x4 : w6.cell? ⟨SB, 4, none⟩ = _ := HA6.out.one 4
                        have x5 : w6.cell? ⟨SB, 5, none⟩ = _ := HA6.out.one 5
                        have x6 : w6.cell? ⟨SB, 6, none⟩ = _ := HA6.out.one 6
                        have x7 : w6.cell? ⟨SB, 7, none⟩ = _ := HA6.out.one 7
                        have x8 : w6.cell? ⟨SB, 8, none⟩ = _ := HA6.out.one 8
                        go_wp2_with fail
                        go_ret
                        exact ⟨by first | rfl | (simp [HSL.out]; done) | simp, HX6.out.below⟩
end Go.Proofs.Ytihhjplbpaafiaa
