import Derived.Test.YtahknjhphbpmiaaZCM6
import Derived.Test.YtahknjhphbpmiaaM19
import Derived.Test.YtahknjhphbpmiaaZCR4
import Derived.Test.YtahknjhphbpmiaaZSF9
namespace Go.Proofs.Ytahknjhphbpmiaa
open Go.RowKit Go.Shelf Go.Sort
set_option linter.unusedVariables false
set_option linter.unusedSimpArgs false
attribute [local go_sem] Oper.semAt_some


set_option maxRecDepth 100000 in
set_option maxHeartbeats 3200000 in
theorem same_step (sa sb sc sd : Bool) (seo : Option Addr) (sen sec : Nat) (sf : Bool) (sgo : Option Addr) (sgn sgc : Nat) (sio : Option Addr) (sinn sic : Nat) (sjo : Option Addr) (sjn sjc : Nat) (ta tb tc td : Bool) (teo : Option Addr) (ten tec : Nat) (tf : Bool) (tgo : Option Addr) (tgn tgc : Nat) (tio : Option Addr) (tinn tic : Nat) (tjo : Option Addr) (tjn tjc : Nat) (w : World) (c : Int)
    (HC : Hid (∀ u, Below w.heap.size w u → Calls Try.prog 9 #[.agg #[.bool sa, .bool sb, .bool sc, .bool sd, .slice seo sen sec, .bool sf, .slice sgo sgn sgc, .slice sio sinn sic, .slice sjo sjn sjc], .agg #[.bool ta, .bool tb, .bool tc, .bool td, .slice teo ten tec, .bool tf, .slice tgo tgn tgc, .slice tio tinn tic, .slice tjo tjn tjc]] u fun e w' => e = .returned (.int .i64 c) ∧ Below u.heap.size u w'))
    :
    Calls Try.prog 10 #[.agg #[.bool sa, .bool sb, .bool sc, .bool sd, .slice seo sen sec, .bool sf, .slice sgo sgn sgc, .slice sio sinn sic, .slice sjo sjn sjc], .agg #[.bool ta, .bool tb, .bool tc, .bool td, .slice teo ten tec, .bool tf, .slice tgo tgn tgc, .slice tio tinn tic, .slice tjo tjn tjc]] w fun e w' => e = .returned (.bool (decide (c = 0))) ∧ Below w.heap.size w w' := by
  have HX := Hid.mk (bx2_new w #[.bool sa, .bool sb, .bool sc, .bool sd, .slice seo sen sec, .bool sf, .slice sgo sgn sgc, .slice sio sinn sic, .slice sjo sjn sjc] #[.bool ta, .bool tb, .bool tc, .bool td, .slice teo ten tec, .bool tf, .slice tgo tgn tgc, .slice tio tinn tic, .slice tjo tjn tjc] 27)
  obtain ⟨W0, hW0⟩ : ∃ W0, (w.alloc (.cells #[.bool sa, .bool sb, .bool sc, .bool sd, .slice seo sen sec, .bool sf, .slice sgo sgn sgc, .slice sio sinn sic, .slice sjo sjn sjc] 27)).alloc (.cells #[.bool ta, .bool tb, .bool tc, .bool td, .slice teo ten tec, .bool tf, .slice tgo tgn tgc, .slice tio tinn tic, .slice tjo tjn tjc] 27) = W0 := ⟨_, rfl⟩
  rw [hW0] at HX
  have p0 : W0.cell? ⟨w.heap.size, 0, none⟩ = some (.bool sa) := HX.out.one 0
  have q0 : W0.cell? ⟨w.heap.size + 1, 0, none⟩ = some (.bool ta) := HX.out.two 0
  have p1 : W0.cell? ⟨w.heap.size, 1, none⟩ = some (.bool sb) := HX.out.one 1
  have q1 : W0.cell? ⟨w.heap.size + 1, 1, none⟩ = some (.bool tb) := HX.out.two 1
  have p2 : W0.cell? ⟨w.heap.size, 2, none⟩ = some (.bool sc) := HX.out.one 2
  have q2 : W0.cell? ⟨w.heap.size + 1, 2, none⟩ = some (.bool tc) := HX.out.two 2
  have p3 : W0.cell? ⟨w.heap.size, 3, none⟩ = some (.bool sd) := HX.out.one 3
  have q3 : W0.cell? ⟨w.heap.size + 1, 3, none⟩ = some (.bool td) := HX.out.two 3
  have p4 : W0.cell? ⟨w.heap.size, 4, none⟩ = some (.slice seo sen sec) := HX.out.one 4
  have q4 : W0.cell? ⟨w.heap.size + 1, 4, none⟩ = some (.slice teo ten tec) := HX.out.two 4
  have p5 : W0.cell? ⟨w.heap.size, 5, none⟩ = some (.bool sf) := HX.out.one 5
  have q5 : W0.cell? ⟨w.heap.size + 1, 5, none⟩ = some (.bool tf) := HX.out.two 5
  have p6 : W0.cell? ⟨w.heap.size, 6, none⟩ = some (.slice sgo sgn sgc) := HX.out.one 6
  have q6 : W0.cell? ⟨w.heap.size + 1, 6, none⟩ = some (.slice tgo tgn tgc) := HX.out.two 6
  have p7 : W0.cell? ⟨w.heap.size, 7, none⟩ = some (.slice sio sinn sic) := HX.out.one 7
  have q7 : W0.cell? ⟨w.heap.size + 1, 7, none⟩ = some (.slice tio tinn tic) := HX.out.two 7
  have p8 : W0.cell? ⟨w.heap.size, 8, none⟩ = some (.slice sjo sjn sjc) := HX.out.one 8
  have q8 : W0.cell? ⟨w.heap.size + 1, 8, none⟩ = some (.slice tjo tjn tjc) := HX.out.two 8
  have hd : (c == 0) = decide (c = 0) := by by_cases h : c = 0 <;> simp [h]
  obtain ⟨D, hD⟩ : ∃ D, decide (c = 0) = D := ⟨_, rfl⟩
  rw [hD] at hd ⊢
  clear hD
  go_enter Try.func10, Try.ntmps10
  go_wp2_with fail
  refine (HC.out _ HX.out.below).mono ?_
  rintro e w1 ⟨rfl, hq⟩
  have HY := Hid.mk (HX.out.keep hq)
  clear hq hW0 HX p0 q0 p1 q1 p2 q2 p3 q3 p4 q4 p5 q5 p6 q6 p7 q7 p8 q8
  go_wp2_with fail
  go_ret
  exact ⟨by first | rfl | rw [hd] | simp [hd], HY.out.below⟩
theorem w_sSame (h : Nat) (A B : TT) (va vb : Value) (w : World) (hA : InT w h A va) (hB : InT w h B vb) : Calls Try.prog 10 #[va, vb] w fun e w' => e = .returned (.bool (decide (cmpTy h A B = 0))) ∧ Below w.heap.size w w' := by
  have H1 := Hid.mk (fun u (hu : Below w.heap.size w u) => w_sCmp h A B va vb u (hA.keep hu) (hB.keep hu))
  obtain ⟨sa, sb, sc, sd, ⟨seo, sen, sec⟩, sf, ⟨sgo, sgn, sgc⟩, ⟨sio, sinn, sic⟩, ⟨sjo, sjn, sjc⟩, eshs⟩ := inT_shape hA
  simp only [Value.agg.injEq, Array.mk.injEq, List.cons.injEq, and_true] at eshs
  obtain ⟨rfl, rfl, rfl, rfl, rfl, rfl, rfl, rfl, rfl⟩ := eshs
  obtain ⟨ta, tb, tc, td, ⟨teo, ten, tec⟩, tf, ⟨tgo, tgn, tgc⟩, ⟨tio, tinn, tic⟩, ⟨tjo, tjn, tjc⟩, esht⟩ := inT_shape hB
  simp only [Value.agg.injEq, Array.mk.injEq, List.cons.injEq, and_true] at esht
  obtain ⟨rfl, rfl, rfl, rfl, rfl, rfl, rfl, rfl, rfl⟩ := esht
  exact same_step _ _ _ _ _ _ _ _ _ _ _ _ _ _ _ _ _ _ _ _ _ _ _ _ _ _ _ _ _ _ _ _ _ _ w _ H1

set_option maxRecDepth 100000 in
set_option maxHeartbeats 8000000 in
theorem orders_step (sa sb sc sd : Bool) (seo : Option Addr) (sen sec : Nat) (sf : Bool) (sgo : Option Addr) (sgn sgc : Nat) (sio : Option Addr) (sinn sic : Nat) (sjo : Option Addr) (sjn sjc : Nat) (ta tb tc td : Bool) (teo : Option Addr) (ten tec : Nat) (tf : Bool) (tgo : Option Addr) (tgn tgc : Nat) (tio : Option Addr) (tinn tic : Nat) (tjo : Option Addr) (tjn tjc : Nat) (w : World) (fa fb ma mb dc : Bool) (c : Int)
    (HLv : Hid (∀ u, Below w.heap.size w u → Calls Try.prog 5 #[] u fun e w' => e = .returned (.bool true) ∧ Below u.heap.size u w'))
    (HFa : Hid (∀ u, Below w.heap.size w u → Calls Try.prog 6 #[.agg #[.bool sa, .bool sb, .bool sc, .bool sd, .slice seo sen sec, .bool sf, .slice sgo sgn sgc, .slice sio sinn sic, .slice sjo sjn sjc]] u fun e w' => e = .returned (.bool fa) ∧ Below u.heap.size u w'))
    (HFb : Hid (∀ u, Below w.heap.size w u → Calls Try.prog 6 #[.agg #[.bool ta, .bool tb, .bool tc, .bool td, .slice teo ten tec, .bool tf, .slice tgo tgn tgc, .slice tio tinn tic, .slice tjo tjn tjc]] u fun e w' => e = .returned (.bool fb) ∧ Below u.heap.size u w'))
    (HMa : Hid (∀ u, Below w.heap.size w u → Calls Try.prog 7 #[.agg #[.bool sa, .bool sb, .bool sc, .bool sd, .slice seo sen sec, .bool sf, .slice sgo sgn sgc, .slice sio sinn sic, .slice sjo sjn sjc]] u fun e w' => e = .returned (.bool ma) ∧ Below u.heap.size u w'))
    (HMb : Hid (∀ u, Below w.heap.size w u → Calls Try.prog 7 #[.agg #[.bool ta, .bool tb, .bool tc, .bool td, .slice teo ten tec, .bool tf, .slice tgo tgn tgc, .slice tio tinn tic, .slice tjo tjn tjc]] u fun e w' => e = .returned (.bool mb) ∧ Below u.heap.size u w'))
    (HRc : Hid (ma = true → mb = true → ∀ u, Below w.heap.size w u → Calls Try.prog 8 #[.agg #[.bool sa, .bool sb, .bool sc, .bool sd, .slice seo sen sec, .bool sf, .slice sgo sgn sgc, .slice sio sinn sic, .slice sjo sjn sjc], .agg #[.bool ta, .bool tb, .bool tc, .bool td, .slice teo ten tec, .bool tf, .slice tgo tgn tgc, .slice tio tinn tic, .slice tjo tjn tjc]] u fun e w' => e = .returned (.int .i64 c) ∧ Below u.heap.size u w'))
    (HC : Hid (∀ u, Below w.heap.size w u → Calls Try.prog 9 #[.agg #[.bool sa, .bool sb, .bool sc, .bool sd, .slice seo sen sec, .bool sf, .slice sgo sgn sgc, .slice sio sinn sic, .slice sjo sjn sjc], .agg #[.bool ta, .bool tb, .bool tc, .bool td, .slice teo ten tec, .bool tf, .slice tgo tgn tgc, .slice tio tinn tic, .slice tjo tjn tjc]] u fun e w' => e = .returned (.int .i64 c) ∧ Below u.heap.size u w'))
    (HSm : Hid (∀ u, Below w.heap.size w u → Calls Try.prog 10 #[.agg #[.bool sa, .bool sb, .bool sc, .bool sd, .slice seo sen sec, .bool sf, .slice sgo sgn sgc, .slice sio sinn sic, .slice sjo sjn sjc], .agg #[.bool ta, .bool tb, .bool tc, .bool td, .slice teo ten tec, .bool tf, .slice tgo tgn tgc, .slice tio tinn tic, .slice tjo tjn tjc]] u fun e w' => e = .returned (.bool dc) ∧ Below u.heap.size u w'))
    (HK : Hid (ma = true → mb = true → ∀ u, Below w.heap.size w u → Calls Try.prog 11 #[.agg #[.bool sa, .bool sb, .bool sc, .bool sd, .slice seo sen sec, .bool sf, .slice sgo sgn sgc, .slice sio sinn sic, .slice sjo sjn sjc], .agg #[.bool ta, .bool tb, .bool tc, .bool td, .slice teo ten tec, .bool tf, .slice tgo tgn tgc, .slice tio tinn tic, .slice tjo tjn tjc]] u fun e w' => e = .returned (.bool dc) ∧ Below u.heap.size u w'))
    (HD : Hid (dc = (c == 0))) :
    Calls Try.prog 3 #[.agg #[.bool sa, .bool sb, .bool sc, .bool sd, .slice seo sen sec, .bool sf, .slice sgo sgn sgc, .slice sio sinn sic, .slice sjo sjn sjc], .agg #[.bool ta, .bool tb, .bool tc, .bool td, .slice teo ten tec, .bool tf, .slice tgo tgn tgc, .slice tio tinn tic, .slice tjo tjn tjc]] w fun e w' => e = .returned (.bool true) ∧ Below w.heap.size w w' := by
  have HX := Hid.mk (bx2_new w #[.bool sa, .bool sb, .bool sc, .bool sd, .slice seo sen sec, .bool sf, .slice sgo sgn sgc, .slice sio sinn sic, .slice sjo sjn sjc] #[.bool ta, .bool tb, .bool tc, .bool td, .slice teo ten tec, .bool tf, .slice tgo tgn tgc, .slice tio tinn tic, .slice tjo tjn tjc] 27)
  obtain ⟨W0, hW0⟩ : ∃ W0, (w.alloc (.cells #[.bool sa, .bool sb, .bool sc, .bool sd, .slice seo sen sec, .bool sf, .slice sgo sgn sgc, .slice sio sinn sic, .slice sjo sjn sjc] 27)).alloc (.cells #[.bool ta, .bool tb, .bool tc, .bool td, .slice teo ten tec, .bool tf, .slice tgo tgn tgc, .slice tio tinn tic, .slice tjo tjn tjc] 27) = W0 := ⟨_, rfl⟩
  rw [hW0] at HX
  go_enter Try.func3, Try.ntmps3
  go_wp2_with fail
  refine (HLv.out _ HX.out.below).mono ?_
  rintro e w1 ⟨rfl, hq⟩
  have HY := Hid.mk (HX.out.keep hq)
  clear hq hW0 HX
  have p0 : w1.cell? ⟨w.heap.size, 0, none⟩ = some (.bool sa) := HY.out.one 0
  have q0 : w1.cell? ⟨w.heap.size + 1, 0, none⟩ = some (.bool ta) := HY.out.two 0
  have p1 : w1.cell? ⟨w.heap.size, 1, none⟩ = some (.bool sb) := HY.out.one 1
  have q1 : w1.cell? ⟨w.heap.size + 1, 1, none⟩ = some (.bool tb) := HY.out.two 1
  have p2 : w1.cell? ⟨w.heap.size, 2, none⟩ = some (.bool sc) := HY.out.one 2
  have q2 : w1.cell? ⟨w.heap.size + 1, 2, none⟩ = some (.bool tc) := HY.out.two 2
  have p3 : w1.cell? ⟨w.heap.size, 3, none⟩ = some (.bool sd) := HY.out.one 3
  have q3 : w1.cell? ⟨w.heap.size + 1, 3, none⟩ = some (.bool td) := HY.out.two 3
  have p4 : w1.cell? ⟨w.heap.size, 4, none⟩ = some (.slice seo sen sec) := HY.out.one 4
  have q4 : w1.cell? ⟨w.heap.size + 1, 4, none⟩ = some (.slice teo ten tec) := HY.out.two 4
  have p5 : w1.cell? ⟨w.heap.size, 5, none⟩ = some (.bool sf) := HY.out.one 5
  have q5 : w1.cell? ⟨w.heap.size + 1, 5, none⟩ = some (.bool tf) := HY.out.two 5
  have p6 : w1.cell? ⟨w.heap.size, 6, none⟩ = some (.slice sgo sgn sgc) := HY.out.one 6
  have q6 : w1.cell? ⟨w.heap.size + 1, 6, none⟩ = some (.slice tgo tgn tgc) := HY.out.two 6
  have p7 : w1.cell? ⟨w.heap.size, 7, none⟩ = some (.slice sio sinn sic) := HY.out.one 7
  have q7 : w1.cell? ⟨w.heap.size + 1, 7, none⟩ = some (.slice tio tinn tic) := HY.out.two 7
  have p8 : w1.cell? ⟨w.heap.size, 8, none⟩ = some (.slice sjo sjn sjc) := HY.out.one 8
  have q8 : w1.cell? ⟨w.heap.size + 1, 8, none⟩ = some (.slice tjo tjn tjc) := HY.out.two 8
  go_wp2_with fail
  refine (HFa.out _ HY.out.below).mono ?_
  rintro e w2 ⟨rfl, hq⟩
  have HZ := Hid.mk (HY.out.keep hq)
  clear hq HY p0 q0 p1 q1 p2 q2 p3 q3 p4 q4 p5 q5 p6 q6 p7 q7 p8 q8
  have HY := HZ
  clear HZ
  cases fa with
  | false =>
    go_wp2_with fail
    go_ret
    exact ⟨by first | rfl | simp, HY.out.below⟩
  | true =>
    have p0 : w2.cell? ⟨w.heap.size, 0, none⟩ = some (.bool sa) := HY.out.one 0
    have q0 : w2.cell? ⟨w.heap.size + 1, 0, none⟩ = some (.bool ta) := HY.out.two 0
    have p1 : w2.cell? ⟨w.heap.size, 1, none⟩ = some (.bool sb) := HY.out.one 1
    have q1 : w2.cell? ⟨w.heap.size + 1, 1, none⟩ = some (.bool tb) := HY.out.two 1
    have p2 : w2.cell? ⟨w.heap.size, 2, none⟩ = some (.bool sc) := HY.out.one 2
    have q2 : w2.cell? ⟨w.heap.size + 1, 2, none⟩ = some (.bool tc) := HY.out.two 2
    have p3 : w2.cell? ⟨w.heap.size, 3, none⟩ = some (.bool sd) := HY.out.one 3
    have q3 : w2.cell? ⟨w.heap.size + 1, 3, none⟩ = some (.bool td) := HY.out.two 3
    have p4 : w2.cell? ⟨w.heap.size, 4, none⟩ = some (.slice seo sen sec) := HY.out.one 4
    have q4 : w2.cell? ⟨w.heap.size + 1, 4, none⟩ = some (.slice teo ten tec) := HY.out.two 4
    have p5 : w2.cell? ⟨w.heap.size, 5, none⟩ = some (.bool sf) := HY.out.one 5
    have q5 : w2.cell? ⟨w.heap.size + 1, 5, none⟩ = some (.bool tf) := HY.out.two 5
    have p6 : w2.cell? ⟨w.heap.size, 6, none⟩ = some (.slice sgo sgn sgc) := HY.out.one 6
    have q6 : w2.cell? ⟨w.heap.size + 1, 6, none⟩ = some (.slice tgo tgn tgc) := HY.out.two 6
    have p7 : w2.cell? ⟨w.heap.size, 7, none⟩ = some (.slice sio sinn sic) := HY.out.one 7
    have q7 : w2.cell? ⟨w.heap.size + 1, 7, none⟩ = some (.slice tio tinn tic) := HY.out.two 7
    have p8 : w2.cell? ⟨w.heap.size, 8, none⟩ = some (.slice sjo sjn sjc) := HY.out.one 8
    have q8 : w2.cell? ⟨w.heap.size + 1, 8, none⟩ = some (.slice tjo tjn tjc) := HY.out.two 8
    go_wp2_with fail
    refine (HFb.out _ HY.out.below).mono ?_
    rintro e w3 ⟨rfl, hq⟩
    have HZ := Hid.mk (HY.out.keep hq)
    clear hq HY p0 q0 p1 q1 p2 q2 p3 q3 p4 q4 p5 q5 p6 q6 p7 q7 p8 q8
    have HY := HZ
    clear HZ
    cases fb with
    | false =>
      go_wp2_with fail
      go_ret
      exact ⟨by first | rfl | simp, HY.out.below⟩
    | true =>
      have p0 : w3.cell? ⟨w.heap.size, 0, none⟩ = some (.bool sa) := HY.out.one 0
      have q0 : w3.cell? ⟨w.heap.size + 1, 0, none⟩ = some (.bool ta) := HY.out.two 0
      have p1 : w3.cell? ⟨w.heap.size, 1, none⟩ = some (.bool sb) := HY.out.one 1
      have q1 : w3.cell? ⟨w.heap.size + 1, 1, none⟩ = some (.bool tb) := HY.out.two 1
      have p2 : w3.cell? ⟨w.heap.size, 2, none⟩ = some (.bool sc) := HY.out.one 2
      have q2 : w3.cell? ⟨w.heap.size + 1, 2, none⟩ = some (.bool tc) := HY.out.two 2
      have p3 : w3.cell? ⟨w.heap.size, 3, none⟩ = some (.bool sd) := HY.out.one 3
      have q3 : w3.cell? ⟨w.heap.size + 1, 3, none⟩ = some (.bool td) := HY.out.two 3
      have p4 : w3.cell? ⟨w.heap.size, 4, none⟩ = some (.slice seo sen sec) := HY.out.one 4
      have q4 : w3.cell? ⟨w.heap.size + 1, 4, none⟩ = some (.slice teo ten tec) := HY.out.two 4
      have p5 : w3.cell? ⟨w.heap.size, 5, none⟩ = some (.bool sf) := HY.out.one 5
      have q5 : w3.cell? ⟨w.heap.size + 1, 5, none⟩ = some (.bool tf) := HY.out.two 5
      have p6 : w3.cell? ⟨w.heap.size, 6, none⟩ = some (.slice sgo sgn sgc) := HY.out.one 6
      have q6 : w3.cell? ⟨w.heap.size + 1, 6, none⟩ = some (.slice tgo tgn tgc) := HY.out.two 6
      have p7 : w3.cell? ⟨w.heap.size, 7, none⟩ = some (.slice sio sinn sic) := HY.out.one 7
      have q7 : w3.cell? ⟨w.heap.size + 1, 7, none⟩ = some (.slice tio tinn tic) := HY.out.two 7
      have p8 : w3.cell? ⟨w.heap.size, 8, none⟩ = some (.slice sjo sjn sjc) := HY.out.one 8
      have q8 : w3.cell? ⟨w.heap.size + 1, 8, none⟩ = some (.slice tjo tjn tjc) := HY.out.two 8
      go_wp2_with fail
      refine (HMa.out _ HY.out.below).mono ?_
      rintro e w4 ⟨rfl, hq⟩
      have HZ := Hid.mk (HY.out.keep hq)
      clear hq HY p0 q0 p1 q1 p2 q2 p3 q3 p4 q4 p5 q5 p6 q6 p7 q7 p8 q8
      have HY := HZ
      clear HZ
      cases ma with
      | false =>
        go_wp2_with fail
        go_ret
        exact ⟨by first | rfl | simp, HY.out.below⟩
      | true =>
        have p0 : w4.cell? ⟨w.heap.size, 0, none⟩ = some (.bool sa) := HY.out.one 0
        have q0 : w4.cell? ⟨w.heap.size + 1, 0, none⟩ = some (.bool ta) := HY.out.two 0
        have p1 : w4.cell? ⟨w.heap.size, 1, none⟩ = some (.bool sb) := HY.out.one 1
        have q1 : w4.cell? ⟨w.heap.size + 1, 1, none⟩ = some (.bool tb) := HY.out.two 1
        have p2 : w4.cell? ⟨w.heap.size, 2, none⟩ = some (.bool sc) := HY.out.one 2
        have q2 : w4.cell? ⟨w.heap.size + 1, 2, none⟩ = some (.bool tc) := HY.out.two 2
        have p3 : w4.cell? ⟨w.heap.size, 3, none⟩ = some (.bool sd) := HY.out.one 3
        have q3 : w4.cell? ⟨w.heap.size + 1, 3, none⟩ = some (.bool td) := HY.out.two 3
        have p4 : w4.cell? ⟨w.heap.size, 4, none⟩ = some (.slice seo sen sec) := HY.out.one 4
        have q4 : w4.cell? ⟨w.heap.size + 1, 4, none⟩ = some (.slice teo ten tec) := HY.out.two 4
        have p5 : w4.cell? ⟨w.heap.size, 5, none⟩ = some (.bool sf) := HY.out.one 5
        have q5 : w4.cell? ⟨w.heap.size + 1, 5, none⟩ = some (.bool tf) := HY.out.two 5
        have p6 : w4.cell? ⟨w.heap.size, 6, none⟩ = some (.slice sgo sgn sgc) := HY.out.one 6
        have q6 : w4.cell? ⟨w.heap.size + 1, 6, none⟩ = some (.slice tgo tgn tgc) := HY.out.two 6
        have p7 : w4.cell? ⟨w.heap.size, 7, none⟩ = some (.slice sio sinn sic) := HY.out.one 7
        have q7 : w4.cell? ⟨w.heap.size + 1, 7, none⟩ = some (.slice tio tinn tic) := HY.out.two 7
        have p8 : w4.cell? ⟨w.heap.size, 8, none⟩ = some (.slice sjo sjn sjc) := HY.out.one 8
        have q8 : w4.cell? ⟨w.heap.size + 1, 8, none⟩ = some (.slice tjo tjn tjc) := HY.out.two 8
        go_wp2_with fail
        refine (HMb.out _ HY.out.below).mono ?_
        rintro e w5 ⟨rfl, hq⟩
        have HZ := Hid.mk (HY.out.keep hq)
        clear hq HY p0 q0 p1 q1 p2 q2 p3 q3 p4 q4 p5 q5 p6 q6 p7 q7 p8 q8
        have HY := HZ
        clear HZ
        cases mb with
        | false =>
          go_wp2_with fail
          go_ret
          exact ⟨by first | rfl | simp, HY.out.below⟩
        | true =>
          have HR2 := Hid.mk (HRc.out (by first | trivial | rfl) (by first | trivial | rfl))
          have HK2 := Hid.mk (HK.out (by first | trivial | rfl) (by first | trivial | rfl))
          clear HRc HK
          have p0 : w5.cell? ⟨w.heap.size, 0, none⟩ = some (.bool sa) := HY.out.one 0
          have q0 : w5.cell? ⟨w.heap.size + 1, 0, none⟩ = some (.bool ta) := HY.out.two 0
          have p1 : w5.cell? ⟨w.heap.size, 1, none⟩ = some (.bool sb) := HY.out.one 1
          have q1 : w5.cell? ⟨w.heap.size + 1, 1, none⟩ = some (.bool tb) := HY.out.two 1
          have p2 : w5.cell? ⟨w.heap.size, 2, none⟩ = some (.bool sc) := HY.out.one 2
          have q2 : w5.cell? ⟨w.heap.size + 1, 2, none⟩ = some (.bool tc) := HY.out.two 2
          have p3 : w5.cell? ⟨w.heap.size, 3, none⟩ = some (.bool sd) := HY.out.one 3
          have q3 : w5.cell? ⟨w.heap.size + 1, 3, none⟩ = some (.bool td) := HY.out.two 3
          have p4 : w5.cell? ⟨w.heap.size, 4, none⟩ = some (.slice seo sen sec) := HY.out.one 4
          have q4 : w5.cell? ⟨w.heap.size + 1, 4, none⟩ = some (.slice teo ten tec) := HY.out.two 4
          have p5 : w5.cell? ⟨w.heap.size, 5, none⟩ = some (.bool sf) := HY.out.one 5
          have q5 : w5.cell? ⟨w.heap.size + 1, 5, none⟩ = some (.bool tf) := HY.out.two 5
          have p6 : w5.cell? ⟨w.heap.size, 6, none⟩ = some (.slice sgo sgn sgc) := HY.out.one 6
          have q6 : w5.cell? ⟨w.heap.size + 1, 6, none⟩ = some (.slice tgo tgn tgc) := HY.out.two 6
          have p7 : w5.cell? ⟨w.heap.size, 7, none⟩ = some (.slice sio sinn sic) := HY.out.one 7
          have q7 : w5.cell? ⟨w.heap.size + 1, 7, none⟩ = some (.slice tio tinn tic) := HY.out.two 7
          have p8 : w5.cell? ⟨w.heap.size, 8, none⟩ = some (.slice sjo sjn sjc) := HY.out.one 8
          have q8 : w5.cell? ⟨w.heap.size + 1, 8, none⟩ = some (.slice tjo tjn tjc) := HY.out.two 8
          go_wp2_with fail
          refine (HR2.out _ HY.out.below).mono ?_
          rintro e w6 ⟨rfl, hq⟩
          have HZ := Hid.mk (HY.out.keep hq)
          clear hq HY p0 q0 p1 q1 p2 q2 p3 q3 p4 q4 p5 q5 p6 q6 p7 q7 p8 q8
          have HY := HZ
          clear HZ
          by_cases h0 : c = 0
          · subst h0
            have hdc : dc = true := HD.out
            subst hdc
            clear HD
            have p0 : w6.cell? ⟨w.heap.size, 0, none⟩ = some (.bool sa) := HY.out.one 0
            have q0 : w6.cell? ⟨w.heap.size + 1, 0, none⟩ = some (.bool ta) := HY.out.two 0
            have p1 : w6.cell? ⟨w.heap.size, 1, none⟩ = some (.bool sb) := HY.out.one 1
            have q1 : w6.cell? ⟨w.heap.size + 1, 1, none⟩ = some (.bool tb) := HY.out.two 1
            have p2 : w6.cell? ⟨w.heap.size, 2, none⟩ = some (.bool sc) := HY.out.one 2
            have q2 : w6.cell? ⟨w.heap.size + 1, 2, none⟩ = some (.bool tc) := HY.out.two 2
            have p3 : w6.cell? ⟨w.heap.size, 3, none⟩ = some (.bool sd) := HY.out.one 3
            have q3 : w6.cell? ⟨w.heap.size + 1, 3, none⟩ = some (.bool td) := HY.out.two 3
            have p4 : w6.cell? ⟨w.heap.size, 4, none⟩ = some (.slice seo sen sec) := HY.out.one 4
            have q4 : w6.cell? ⟨w.heap.size + 1, 4, none⟩ = some (.slice teo ten tec) := HY.out.two 4
            have p5 : w6.cell? ⟨w.heap.size, 5, none⟩ = some (.bool sf) := HY.out.one 5
            have q5 : w6.cell? ⟨w.heap.size + 1, 5, none⟩ = some (.bool tf) := HY.out.two 5
            have p6 : w6.cell? ⟨w.heap.size, 6, none⟩ = some (.slice sgo sgn sgc) := HY.out.one 6
            have q6 : w6.cell? ⟨w.heap.size + 1, 6, none⟩ = some (.slice tgo tgn tgc) := HY.out.two 6
            have p7 : w6.cell? ⟨w.heap.size, 7, none⟩ = some (.slice sio sinn sic) := HY.out.one 7
            have q7 : w6.cell? ⟨w.heap.size + 1, 7, none⟩ = some (.slice tio tinn tic) := HY.out.two 7
            have p8 : w6.cell? ⟨w.heap.size, 8, none⟩ = some (.slice sjo sjn sjc) := HY.out.one 8
            have q8 : w6.cell? ⟨w.heap.size + 1, 8, none⟩ = some (.slice tjo tjn tjc) := HY.out.two 8
            go_wp2_with fail
            refine (HC.out _ HY.out.below).mono ?_
            rintro e w7 ⟨rfl, hq⟩
            have HZ := Hid.mk (HY.out.keep hq)
            clear hq HY p0 q0 p1 q1 p2 q2 p3 q3 p4 q4 p5 q5 p6 q6 p7 q7 p8 q8
            have HY := HZ
            clear HZ
            have p0 : w7.cell? ⟨w.heap.size, 0, none⟩ = some (.bool sa) := HY.out.one 0
            have q0 : w7.cell? ⟨w.heap.size + 1, 0, none⟩ = some (.bool ta) := HY.out.two 0
            have p1 : w7.cell? ⟨w.heap.size, 1, none⟩ = some (.bool sb) := HY.out.one 1
            have q1 : w7.cell? ⟨w.heap.size + 1, 1, none⟩ = some (.bool tb) := HY.out.two 1
            have p2 : w7.cell? ⟨w.heap.size, 2, none⟩ = some (.bool sc) := HY.out.one 2
            have q2 : w7.cell? ⟨w.heap.size + 1, 2, none⟩ = some (.bool tc) := HY.out.two 2
            have p3 : w7.cell? ⟨w.heap.size, 3, none⟩ = some (.bool sd) := HY.out.one 3
            have q3 : w7.cell? ⟨w.heap.size + 1, 3, none⟩ = some (.bool td) := HY.out.two 3
            have p4 : w7.cell? ⟨w.heap.size, 4, none⟩ = some (.slice seo sen sec) := HY.out.one 4
            have q4 : w7.cell? ⟨w.heap.size + 1, 4, none⟩ = some (.slice teo ten tec) := HY.out.two 4
            have p5 : w7.cell? ⟨w.heap.size, 5, none⟩ = some (.bool sf) := HY.out.one 5
            have q5 : w7.cell? ⟨w.heap.size + 1, 5, none⟩ = some (.bool tf) := HY.out.two 5
            have p6 : w7.cell? ⟨w.heap.size, 6, none⟩ = some (.slice sgo sgn sgc) := HY.out.one 6
            have q6 : w7.cell? ⟨w.heap.size + 1, 6, none⟩ = some (.slice tgo tgn tgc) := HY.out.two 6
            have p7 : w7.cell? ⟨w.heap.size, 7, none⟩ = some (.slice sio sinn sic) := HY.out.one 7
            have q7 : w7.cell? ⟨w.heap.size + 1, 7, none⟩ = some (.slice tio tinn tic) := HY.out.two 7
            have p8 : w7.cell? ⟨w.heap.size, 8, none⟩ = some (.slice sjo sjn sjc) := HY.out.one 8
            have q8 : w7.cell? ⟨w.heap.size + 1, 8, none⟩ = some (.slice tjo tjn tjc) := HY.out.two 8
            go_wp2_with fail
            refine (HSm.out _ HY.out.below).mono ?_
            rintro e w8 ⟨rfl, hq⟩
            have HZ := Hid.mk (HY.out.keep hq)
            clear hq HY p0 q0 p1 q1 p2 q2 p3 q3 p4 q4 p5 q5 p6 q6 p7 q7 p8 q8
            have HY := HZ
            clear HZ
            have p0 : w8.cell? ⟨w.heap.size, 0, none⟩ = some (.bool sa) := HY.out.one 0
            have q0 : w8.cell? ⟨w.heap.size + 1, 0, none⟩ = some (.bool ta) := HY.out.two 0
            have p1 : w8.cell? ⟨w.heap.size, 1, none⟩ = some (.bool sb) := HY.out.one 1
            have q1 : w8.cell? ⟨w.heap.size + 1, 1, none⟩ = some (.bool tb) := HY.out.two 1
            have p2 : w8.cell? ⟨w.heap.size, 2, none⟩ = some (.bool sc) := HY.out.one 2
            have q2 : w8.cell? ⟨w.heap.size + 1, 2, none⟩ = some (.bool tc) := HY.out.two 2
            have p3 : w8.cell? ⟨w.heap.size, 3, none⟩ = some (.bool sd) := HY.out.one 3
            have q3 : w8.cell? ⟨w.heap.size + 1, 3, none⟩ = some (.bool td) := HY.out.two 3
            have p4 : w8.cell? ⟨w.heap.size, 4, none⟩ = some (.slice seo sen sec) := HY.out.one 4
            have q4 : w8.cell? ⟨w.heap.size + 1, 4, none⟩ = some (.slice teo ten tec) := HY.out.two 4
            have p5 : w8.cell? ⟨w.heap.size, 5, none⟩ = some (.bool sf) := HY.out.one 5
            have q5 : w8.cell? ⟨w.heap.size + 1, 5, none⟩ = some (.bool tf) := HY.out.two 5
            have p6 : w8.cell? ⟨w.heap.size, 6, none⟩ = some (.slice sgo sgn sgc) := HY.out.one 6
            have q6 : w8.cell? ⟨w.heap.size + 1, 6, none⟩ = some (.slice tgo tgn tgc) := HY.out.two 6
            have p7 : w8.cell? ⟨w.heap.size, 7, none⟩ = some (.slice sio sinn sic) := HY.out.one 7
            have q7 : w8.cell? ⟨w.heap.size + 1, 7, none⟩ = some (.slice tio tinn tic) := HY.out.two 7
            have p8 : w8.cell? ⟨w.heap.size, 8, none⟩ = some (.slice sjo sjn sjc) := HY.out.one 8
            have q8 : w8.cell? ⟨w.heap.size + 1, 8, none⟩ = some (.slice tjo tjn tjc) := HY.out.two 8
            go_wp2_with fail
            refine (HK2.out _ HY.out.below).mono ?_
            rintro e w9 ⟨rfl, hq⟩
            have HZ := Hid.mk (HY.out.keep hq)
            clear hq HY p0 q0 p1 q1 p2 q2 p3 q3 p4 q4 p5 q5 p6 q6 p7 q7 p8 q8
            have HY := HZ
            clear HZ
            go_wp2_with fail
            go_ret
            exact ⟨by first | rfl | simp, HY.out.below⟩
          · have h0' : (c == 0) = false := by simpa using h0
            have hdc : dc = false := by rw [HD.out, h0']
            subst hdc
            clear HD h0
            have p0 : w6.cell? ⟨w.heap.size, 0, none⟩ = some (.bool sa) := HY.out.one 0
            have q0 : w6.cell? ⟨w.heap.size + 1, 0, none⟩ = some (.bool ta) := HY.out.two 0
            have p1 : w6.cell? ⟨w.heap.size, 1, none⟩ = some (.bool sb) := HY.out.one 1
            have q1 : w6.cell? ⟨w.heap.size + 1, 1, none⟩ = some (.bool tb) := HY.out.two 1
            have p2 : w6.cell? ⟨w.heap.size, 2, none⟩ = some (.bool sc) := HY.out.one 2
            have q2 : w6.cell? ⟨w.heap.size + 1, 2, none⟩ = some (.bool tc) := HY.out.two 2
            have p3 : w6.cell? ⟨w.heap.size, 3, none⟩ = some (.bool sd) := HY.out.one 3
            have q3 : w6.cell? ⟨w.heap.size + 1, 3, none⟩ = some (.bool td) := HY.out.two 3
            have p4 : w6.cell? ⟨w.heap.size, 4, none⟩ = some (.slice seo sen sec) := HY.out.one 4
            have q4 : w6.cell? ⟨w.heap.size + 1, 4, none⟩ = some (.slice teo ten tec) := HY.out.two 4
            have p5 : w6.cell? ⟨w.heap.size, 5, none⟩ = some (.bool sf) := HY.out.one 5
            have q5 : w6.cell? ⟨w.heap.size + 1, 5, none⟩ = some (.bool tf) := HY.out.two 5
            have p6 : w6.cell? ⟨w.heap.size, 6, none⟩ = some (.slice sgo sgn sgc) := HY.out.one 6
            have q6 : w6.cell? ⟨w.heap.size + 1, 6, none⟩ = some (.slice tgo tgn tgc) := HY.out.two 6
            have p7 : w6.cell? ⟨w.heap.size, 7, none⟩ = some (.slice sio sinn sic) := HY.out.one 7
            have q7 : w6.cell? ⟨w.heap.size + 1, 7, none⟩ = some (.slice tio tinn tic) := HY.out.two 7
            have p8 : w6.cell? ⟨w.heap.size, 8, none⟩ = some (.slice sjo sjn sjc) := HY.out.one 8
            have q8 : w6.cell? ⟨w.heap.size + 1, 8, none⟩ = some (.slice tjo tjn tjc) := HY.out.two 8
            go_wp2_with fail
            refine (HC.out _ HY.out.below).mono ?_
            rintro e w7 ⟨rfl, hq⟩
            have HZ := Hid.mk (HY.out.keep hq)
            clear hq HY p0 q0 p1 q1 p2 q2 p3 q3 p4 q4 p5 q5 p6 q6 p7 q7 p8 q8
            have HY := HZ
            clear HZ
            have p0 : w7.cell? ⟨w.heap.size, 0, none⟩ = some (.bool sa) := HY.out.one 0
            have q0 : w7.cell? ⟨w.heap.size + 1, 0, none⟩ = some (.bool ta) := HY.out.two 0
            have p1 : w7.cell? ⟨w.heap.size, 1, none⟩ = some (.bool sb) := HY.out.one 1
            have q1 : w7.cell? ⟨w.heap.size + 1, 1, none⟩ = some (.bool tb) := HY.out.two 1
            have p2 : w7.cell? ⟨w.heap.size, 2, none⟩ = some (.bool sc) := HY.out.one 2
            have q2 : w7.cell? ⟨w.heap.size + 1, 2, none⟩ = some (.bool tc) := HY.out.two 2
            have p3 : w7.cell? ⟨w.heap.size, 3, none⟩ = some (.bool sd) := HY.out.one 3
            have q3 : w7.cell? ⟨w.heap.size + 1, 3, none⟩ = some (.bool td) := HY.out.two 3
            have p4 : w7.cell? ⟨w.heap.size, 4, none⟩ = some (.slice seo sen sec) := HY.out.one 4
            have q4 : w7.cell? ⟨w.heap.size + 1, 4, none⟩ = some (.slice teo ten tec) := HY.out.two 4
            have p5 : w7.cell? ⟨w.heap.size, 5, none⟩ = some (.bool sf) := HY.out.one 5
            have q5 : w7.cell? ⟨w.heap.size + 1, 5, none⟩ = some (.bool tf) := HY.out.two 5
            have p6 : w7.cell? ⟨w.heap.size, 6, none⟩ = some (.slice sgo sgn sgc) := HY.out.one 6
            have q6 : w7.cell? ⟨w.heap.size + 1, 6, none⟩ = some (.slice tgo tgn tgc) := HY.out.two 6
            have p7 : w7.cell? ⟨w.heap.size, 7, none⟩ = some (.slice sio sinn sic) := HY.out.one 7
            have q7 : w7.cell? ⟨w.heap.size + 1, 7, none⟩ = some (.slice tio tinn tic) := HY.out.two 7
            have p8 : w7.cell? ⟨w.heap.size, 8, none⟩ = some (.slice sjo sjn sjc) := HY.out.one 8
            have q8 : w7.cell? ⟨w.heap.size + 1, 8, none⟩ = some (.slice tjo tjn tjc) := HY.out.two 8
            go_wp2_with fail
            refine (HSm.out _ HY.out.below).mono ?_
            rintro e w8 ⟨rfl, hq⟩
            have HZ := Hid.mk (HY.out.keep hq)
            clear hq HY p0 q0 p1 q1 p2 q2 p3 q3 p4 q4 p5 q5 p6 q6 p7 q7 p8 q8
            have HY := HZ
            clear HZ
            have p0 : w8.cell? ⟨w.heap.size, 0, none⟩ = some (.bool sa) := HY.out.one 0
            have q0 : w8.cell? ⟨w.heap.size + 1, 0, none⟩ = some (.bool ta) := HY.out.two 0
            have p1 : w8.cell? ⟨w.heap.size, 1, none⟩ = some (.bool sb) := HY.out.one 1
            have q1 : w8.cell? ⟨w.heap.size + 1, 1, none⟩ = some (.bool tb) := HY.out.two 1
            have p2 : w8.cell? ⟨w.heap.size, 2, none⟩ = some (.bool sc) := HY.out.one 2
            have q2 : w8.cell? ⟨w.heap.size + 1, 2, none⟩ = some (.bool tc) := HY.out.two 2
            have p3 : w8.cell? ⟨w.heap.size, 3, none⟩ = some (.bool sd) := HY.out.one 3
            have q3 : w8.cell? ⟨w.heap.size + 1, 3, none⟩ = some (.bool td) := HY.out.two 3
            have p4 : w8.cell? ⟨w.heap.size, 4, none⟩ = some (.slice seo sen sec) := HY.out.one 4
            have q4 : w8.cell? ⟨w.heap.size + 1, 4, none⟩ = some (.slice teo ten tec) := HY.out.two 4
            have p5 : w8.cell? ⟨w.heap.size, 5, none⟩ = some (.bool sf) := HY.out.one 5
            have q5 : w8.cell? ⟨w.heap.size + 1, 5, none⟩ = some (.bool tf) := HY.out.two 5
            have p6 : w8.cell? ⟨w.heap.size, 6, none⟩ = some (.slice sgo sgn sgc) := HY.out.one 6
            have q6 : w8.cell? ⟨w.heap.size + 1, 6, none⟩ = some (.slice tgo tgn tgc) := HY.out.two 6
            have p7 : w8.cell? ⟨w.heap.size, 7, none⟩ = some (.slice sio sinn sic) := HY.out.one 7
            have q7 : w8.cell? ⟨w.heap.size + 1, 7, none⟩ = some (.slice tio tinn tic) := HY.out.two 7
            have p8 : w8.cell? ⟨w.heap.size, 8, none⟩ = some (.slice sjo sjn sjc) := HY.out.one 8
            have q8 : w8.cell? ⟨w.heap.size + 1, 8, none⟩ = some (.slice tjo tjn tjc) := HY.out.two 8
            go_wp2_with fail
            refine (HK2.out _ HY.out.below).mono ?_
            rintro e w9 ⟨rfl, hq⟩
            have HZ := Hid.mk (HY.out.keep hq)
            clear hq HY p0 q0 p1 q1 p2 q2 p3 q3 p4 q4 p5 q5 p6 q6 p7 q7 p8 q8
            have HY := HZ
            clear HZ
            go_wp2_with fail
            go_ret
            exact ⟨by first | rfl | simp, HY.out.below⟩

set_option maxRecDepth 100000 in
theorem w_ShapeOrders (h : Nat) (A B : TT) (va vb : Value) (w : World) (hA : InT w h A va) (hB : InT w h B vb) (tA : tpN h A ≤ 1048576) (tB : tpN h B ≤ 1048576) (rA : rgT h A) (rB : rgT h B) :
    Calls Try.prog 3 #[va, vb] w fun e w' => e = .returned (.bool true) ∧ Below w.heap.size w w' := by
  have H0 := Hid.mk (fun u (hu : Below w.heap.size w u) => w_lives9 u)
  have H1 := Hid.mk (fun u (hu : Below w.heap.size w u) => w_FitType h A va u (hA.keep hu) tA)
  have H2 := Hid.mk (fun u (hu : Below w.heap.size w u) => w_FitType h B vb u (hB.keep hu) tB)
  have H4 := Hid.mk (fun u (hu : Below w.heap.size w u) => w_rFormed h A va u (hA.keep hu))
  have H5 := Hid.mk (fun u (hu : Below w.heap.size w u) => w_rFormed h B vb u (hB.keep hu))
  have H6 := Hid.mk (fun (m1 : fmN h A = true) (m2 : fmN h B = true) u (hu : Below w.heap.size w u) => w_rCmpT h A B va vb u (good_of m1 rA) (good_of m2 rB) (hA.keep hu) (hB.keep hu))
  have H7 := Hid.mk (fun u (hu : Below w.heap.size w u) => w_sCmp h A B va vb u (hA.keep hu) (hB.keep hu))
  have H8 := Hid.mk (fun u (hu : Below w.heap.size w u) => w_sSame h A B va vb u (hA.keep hu) (hB.keep hu))
  have H9 : Hid (fmN h A = true → fmN h B = true → ∀ u, Below w.heap.size w u → Calls Try.prog 11 #[va, vb] u fun e w' => e = .returned (.bool (decide (cmpTy h A B = 0))) ∧ Below u.heap.size u w') := fun m1 m2 u hu => by
    have := w_kSameType h A B va vb u (hA.keep hu) (hB.keep hu)
    rw [sameT_cmp (good_of m1 rA) (good_of m2 rB)] at this
    exact this
  obtain ⟨sa, sb, sc, sd, ⟨seo, sen, sec⟩, sf, ⟨sgo, sgn, sgc⟩, ⟨sio, sinn, sic⟩, ⟨sjo, sjn, sjc⟩, eshs⟩ := inT_shape hA
  simp only [Value.agg.injEq, Array.mk.injEq, List.cons.injEq, and_true] at eshs
  obtain ⟨rfl, rfl, rfl, rfl, rfl, rfl, rfl, rfl, rfl⟩ := eshs
  obtain ⟨ta, tb, tc, td, ⟨teo, ten, tec⟩, tf, ⟨tgo, tgn, tgc⟩, ⟨tio, tinn, tic⟩, ⟨tjo, tjn, tjc⟩, esht⟩ := inT_shape hB
  simp only [Value.agg.injEq, Array.mk.injEq, List.cons.injEq, and_true] at esht
  obtain ⟨rfl, rfl, rfl, rfl, rfl, rfl, rfl, rfl, rfl⟩ := esht
  exact orders_step _ _ _ _ _ _ _ _ _ _ _ _ _ _ _ _ _ _ _ _ _ _ _ _ _ _ _ _ _ _ _ _ _ _ w _ _ _ _ _ _ H0 H1 H2 H4 H5 H6 H7 H8 H9 (Hid.mk (by by_cases hh : cmpTy h A B = 0 <;> simp [hh]))
end Go.Proofs.Ytahknjhphbpmiaa
