import Derived.Test.YtdjoelhiahpmlaaM47
namespace Go.Proofs.Ytdjoelhiahpmlaa
open Go.RowKit Go.Shelf Go.Sort
set_option linter.unusedVariables false
set_option linter.unusedSimpArgs false
attribute [local go_sem] Oper.semAt_some


set_option maxRecDepth 100000 in
set_option maxHeartbeats 3200000 in
theorem same_step (sa sb sc sd : Bool) (seo : Option Addr) (sen sec : Nat) (sf : Bool) (sgo : Option Addr) (sgn sgc : Nat) (sio : Option Addr) (sinn sic : Nat) (sjo : Option Addr) (sjn sjc : Nat) (ta tb tc td : Bool) (teo : Option Addr) (ten tec : Nat) (tf : Bool) (tgo : Option Addr) (tgn tgc : Nat) (tio : Option Addr) (tinn tic : Nat) (tjo : Option Addr) (tjn tjc : Nat) (w : World) (c : Int)
    (HC : Hid (∀ u, Below w.heap.size w u → Calls Try.prog 59 #[.agg #[.bool sa, .bool sb, .bool sc, .bool sd, .slice seo sen sec, .bool sf, .slice sgo sgn sgc, .slice sio sinn sic, .slice sjo sjn sjc], .agg #[.bool ta, .bool tb, .bool tc, .bool td, .slice teo ten tec, .bool tf, .slice tgo tgn tgc, .slice tio tinn tic, .slice tjo tjn tjc]] u fun e w' => e = .returned (.int .i64 c) ∧ Below u.heap.size u w'))
    :
    Calls Try.prog 57 #[.agg #[.bool sa, .bool sb, .bool sc, .bool sd, .slice seo sen sec, .bool sf, .slice sgo sgn sgc, .slice sio sinn sic, .slice sjo sjn sjc], .agg #[.bool ta, .bool tb, .bool tc, .bool td, .slice teo ten tec, .bool tf, .slice tgo tgn tgc, .slice tio tinn tic, .slice tjo tjn tjc]] w fun e w' => e = .returned (.bool (decide (c = 0))) ∧ Below w.heap.size w w' := by
  have HX := Hid.mk (bx2_new w #[.bool sa, .bool sb, .bool sc, .bool sd, .slice seo sen sec, .bool sf, .slice sgo sgn sgc, .slice sio sinn sic, .slice sjo sjn sjc] #[.bool ta, .bool tb, .bool tc, .bool td, .slice teo ten tec, .bool tf, .slice tgo tgn tgc, .slice tio tinn tic, .slice tjo tjn tjc] 33)
  obtain ⟨W0, hW0⟩ : ∃ W0, (w.alloc (.cells #[.bool sa, .bool sb, .bool sc, .bool sd, .slice seo sen sec, .bool sf, .slice sgo sgn sgc, .slice sio sinn sic, .slice sjo sjn sjc] 33)).alloc (.cells #[.bool ta, .bool tb, .bool tc, .bool td, .slice teo ten tec, .bool tf, .slice tgo tgn tgc, .slice tio tinn tic, .slice tjo tjn tjc] 33) = W0 := ⟨_, rfl⟩
  rw [hW0] at HX
  have p0 : W0.cell? ⟨w.heap.size, 0, none⟩ = some (.bool sa) := HX.out.one 0
  have q0 : W0.cell? ⟨w.heap.size + 1, 0, none⟩ = some (.bool ta) := HX.out.two 0
  have p1 : W0.cell? ⟨w.heap.size, 1, none⟩ = some (.bool sb) := HX.out.one 1
  have q1 : W0.cell? ⟨w.heap.size + 1, 1, none⟩ = some (.bool tb) := HX.out.two 1
  have p2 : W0.cell? ⟨w.heap.size, 2, none⟩ = some (.bool sc) := HX.out.one 2
  have q2 : W0.cell? ⟨w.heap.size + 1, 2, none⟩ = some (.bool tc) := HX.out.two 2
  have p3 : W0.cell? ⟨w.heap.size, 3, none⟩ = some (.bool sd) := HX.out.one 3
  have q3 : W0.cell? ⟨w.heap.size + 1, 3, none⟩ = some (.bool td) := HX.out.two 3
  have p4 : W0.cell? ⟨w.heap.size, 4, none⟩ = some (.slice seo sen sec) := HX.out.one 4
  have q4 : W0.cell? ⟨w.heap.size + 1, 4, none⟩ = some (.slice teo ten tec) := HX.out.two 4
  have p5 : W0.cell? ⟨w.heap.size, 5, none⟩ = some (.bool sf) := HX.out.one 5
  have q5 : W0.cell? ⟨w.heap.size + 1, 5, none⟩ = some (.bool tf) := HX.out.two 5
  have p6 : W0.cell? ⟨w.heap.size, 6, none⟩ = some (.slice sgo sgn sgc) := HX.out.one 6
  have q6 : W0.cell? ⟨w.heap.size + 1, 6, none⟩ = some (.slice tgo tgn tgc) := HX.out.two 6
  have p7 : W0.cell? ⟨w.heap.size, 7, none⟩ = some (.slice sio sinn sic) := HX.out.one 7
  have q7 : W0.cell? ⟨w.heap.size + 1, 7, none⟩ = some (.slice tio tinn tic) := HX.out.two 7
  have p8 : W0.cell? ⟨w.heap.size, 8, none⟩ = some (.slice sjo sjn sjc) := HX.out.one 8
  have q8 : W0.cell? ⟨w.heap.size + 1, 8, none⟩ = some (.slice tjo tjn tjc) := HX.out.two 8
  have hd : (c == 0) = decide (c = 0) := by by_cases h : c = 0 <;> simp [h]
  obtain ⟨D, hD⟩ : ∃ D, decide (c = 0) = D := ⟨_, rfl⟩
  rw [hD] at hd ⊢
  clear hD
  go_enter Try.func57, Try.ntmps57
  go_wp2_with fail
  refine (HC.out _ HX.out.below).mono ?_
  rintro e w1 ⟨rfl, hq⟩
  have HY := Hid.mk (HX.out.keep hq)
  clear hq hW0 HX p0 q0 p1 q1 p2 q2 p3 q3 p4 q4 p5 q5 p6 q6 p7 q7 p8 q8
  go_wp2_with fail
  go_ret
  exact ⟨by first | rfl | rw [hd] | simp [hd], HY.out.below⟩
theorem w_sSame (h : Nat) (A B : TT) (va vb : Value) (w : World) (hA : InT w h A va) (hB : InT w h B vb) : Calls Try.prog 57 #[va, vb] w fun e w' => e = .returned (.bool (decide (cmpTy h A B = 0))) ∧ Below w.heap.size w w' := by
  have H1 := Hid.mk (fun u (hu : Below w.heap.size w u) => w_sCmp h A B va vb u (hA.keep hu) (hB.keep hu))
  obtain ⟨sa, sb, sc, sd, ⟨seo, sen, sec⟩, sf, ⟨sgo, sgn, sgc⟩, ⟨sio, sinn, sic⟩, ⟨sjo, sjn, sjc⟩, eshs⟩ := inT_shape hA
  simp only [Value.agg.injEq, Array.mk.injEq, List.cons.injEq, and_true] at eshs
  obtain ⟨rfl, rfl, rfl, rfl, rfl, rfl, rfl, rfl, rfl⟩ := eshs
  obtain ⟨ta, tb, tc, td, ⟨teo, ten, tec⟩, tf, ⟨tgo, tgn, tgc⟩, ⟨tio, tinn, tic⟩, ⟨tjo, tjn, tjc⟩, esht⟩ := inT_shape hB
  simp only [Value.agg.injEq, Array.mk.injEq, List.cons.injEq, and_true] at esht
  obtain ⟨rfl, rfl, rfl, rfl, rfl, rfl, rfl, rfl, rfl⟩ := esht
  exact same_step _ _ _ _ _ _ _ _ _ _ _ _ _ _ _ _ _ _ _ _ _ _ _ _ _ _ _ _ _ _ _ _ _ _ w _ H1
end Go.Proofs.Ytdjoelhiahpmlaa
