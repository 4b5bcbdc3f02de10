import Derived.Test.YtahknjhphbpmiaaZCM4
namespace Go.Proofs.Ytahknjhphbpmiaa
open Go.RowKit Go.Shelf Go.Sort
set_option linter.unusedVariables false
set_option linter.unusedSimpArgs false
attribute [local go_sem] Oper.semAt_some


set_option maxRecDepth 100000 in
set_option maxHeartbeats 3200000 in
theorem w_byArr (h : Nat) (ih : FcT h) : FcA h := by
  intro a b c0 c1 c2 c3 c4 c5 c6 c7 c8 d0 d1 d2 d3 d4 d5 d6 d7 d8 w ha hb
  have HIh := Hid.mk (fun u (hu : Below w.heap.size w u) => ih a.item b.item _ _ u (ha.keep hu) (hb.keep hu))
  obtain ⟨sa, sb, sc, sd, ⟨seo, sen, sec⟩, sf, ⟨sgo, sgn, sgc⟩, ⟨sio, sinn, sic⟩, ⟨sjo, sjn, sjc⟩, eshs⟩ := inT_shape ha
  simp only [Value.agg.injEq, Array.mk.injEq, List.cons.injEq, and_true] at eshs
  obtain ⟨rfl, rfl, rfl, rfl, rfl, rfl, rfl, rfl, rfl⟩ := eshs
  obtain ⟨ta, tb, tc, td, ⟨teo, ten, tec⟩, tf, ⟨tgo, tgn, tgc⟩, ⟨tio, tinn, tic⟩, ⟨tjo, tjn, tjc⟩, esht⟩ := inT_shape hb
  simp only [Value.agg.injEq, Array.mk.injEq, List.cons.injEq, and_true] at esht
  obtain ⟨rfl, rfl, rfl, rfl, rfl, rfl, rfl, rfl, rfl⟩ := esht
  have HG : Hid (arC (cmpTy h) a b = Pl.orI (Pl.orI (Pl.cmpI a.min b.min) (maxC a.max b.max)) (cmpTy h a.item b.item)) := rfl
  obtain ⟨R, hR⟩ : ∃ R, arC (cmpTy h) a b = R := ⟨_, rfl⟩
  rw [hR] at HG ⊢
  generalize cmpTy h a.item b.item = z at HIh HG
  generalize a.min = m1 at *
  generalize a.max = n1 at *
  generalize b.min = m2 at *
  generalize b.max = n2 at *
  clear ha hb hR ih
  have HX := Hid.mk (bx2_new w #[.bool sa, .bool sb, .bool sc, .bool sd, .slice seo sen sec, .bool sf, .slice sgo sgn sgc, .slice sio sinn sic, .slice sjo sjn sjc, .int .i64 m1, .int .i64 n1] #[.bool ta, .bool tb, .bool tc, .bool td, .slice teo ten tec, .bool tf, .slice tgo tgn tgc, .slice tio tinn tic, .slice tjo tjn tjc, .int .i64 m2, .int .i64 n2] 63)
  obtain ⟨W0, hW0⟩ : ∃ W0, (w.alloc (.cells #[.bool sa, .bool sb, .bool sc, .bool sd, .slice seo sen sec, .bool sf, .slice sgo sgn sgc, .slice sio sinn sic, .slice sjo sjn sjc, .int .i64 m1, .int .i64 n1] 63)).alloc (.cells #[.bool ta, .bool tb, .bool tc, .bool td, .slice teo ten tec, .bool tf, .slice tgo tgn tgc, .slice tio tinn tic, .slice tjo tjn tjc, .int .i64 m2, .int .i64 n2] 63) = W0 := ⟨_, rfl⟩
  rw [hW0] at HX
  have p9 : W0.cell? ⟨w.heap.size, 9, none⟩ = some (.int .i64 m1) := HX.out.one 9
  have p10 : W0.cell? ⟨w.heap.size, 10, none⟩ = some (.int .i64 n1) := HX.out.one 10
  have q9 : W0.cell? ⟨w.heap.size + 1, 9, none⟩ = some (.int .i64 m2) := HX.out.two 9
  have q10 : W0.cell? ⟨w.heap.size + 1, 10, none⟩ = some (.int .i64 n2) := HX.out.two 10
  have C1 := Hid.mk (fun (d : Nat) (os : Array Obj) => (w_CompareInt m1 m2 (grow (redrawn W0 d) os)).mono (fun e w' k => (⟨k.1, by rw [k.2]; exact Below.refl _ _⟩ : e = .returned (.int .i64 (Pl.cmpI m1 m2)) ∧ Below (grow (redrawn W0 d) os).heap.size (grow (redrawn W0 d) os) w')))
  have C2 := Hid.mk (fun (d : Nat) (os : Array Obj) => (w_byMax n1 n2 (grow (redrawn W0 d) os)).mono (fun e w' k => (⟨k.1, by rw [k.2]; exact Below.refl _ _⟩ : e = .returned (.int .i64 (maxC n1 n2)) ∧ Below (grow (redrawn W0 d) os).heap.size (grow (redrawn W0 d) os) w')))
  generalize Pl.cmpI m1 m2 = x at C1 HG
  generalize maxC n1 n2 = y at C2 HG
  have Ap9 := fun d os => cell_regrown p9 d os
  have Ap10 := fun d os => cell_regrown p10 d os
  have Aq9 := fun d os => cell_regrown q9 d os
  have Aq10 := fun d os => cell_regrown q10 d os
  go_enter Try.func69, Try.ntmps69
  go_wp2_with fail
  refine wp_region_quiet_at 10 (by kernel_rfl) (by kernel_rfl) (by kernel_rfl) (by kernel_rfl) (by kernel_rfl) ?_
  simp only [List.take_succ_cons, List.take_zero, List.drop_succ_cons, List.drop_zero]
  iterate 5 (go_big_quiet_step (exact Calls.regrown_of (C1.out _ _)))
  iterate 5 (go_big_quiet_step (exact Calls.regrown_of (C2.out _ _)))
  refine wpQuiet_nil ?_
  intro w9 hw'
  have hb9 : Below W0.heap.size W0 w9 := by
    obtain ⟨⟨dq, osq⟩, rfl⟩ := hw'
    exact below_regrown W0 dq osq
  have HX9 := Hid.mk (HX.out.keep hb9)
  clear hw' hb9 hW0 Ap9 Ap10 Aq9 Aq10 p9 p10 q9 q10 C1 C2 HX
  go_wp2_with fail
  refine (w_Or2 w9.heap.size x y _ (by simp) (by simp)).mono ?_
  rintro e w1 ⟨rfl, hw1⟩
  have HY := Hid.mk (HX9.out.keep (u' := w1) (by rw [hw1]; exact below1 _ _))
  clear hw1 HX9
  generalize Pl.orI x y = s at HG ⊢
  by_cases h0 : s = 0
  · subst h0
    have p0 : w1.cell? ⟨w.heap.size, 0, none⟩ = some (.bool sa) := HY.out.one 0
    have p1 : w1.cell? ⟨w.heap.size, 1, none⟩ = some (.bool sb) := HY.out.one 1
    have p2 : w1.cell? ⟨w.heap.size, 2, none⟩ = some (.bool sc) := HY.out.one 2
    have p3 : w1.cell? ⟨w.heap.size, 3, none⟩ = some (.bool sd) := HY.out.one 3
    have p4 : w1.cell? ⟨w.heap.size, 4, none⟩ = some (.slice seo sen sec) := HY.out.one 4
    have p5 : w1.cell? ⟨w.heap.size, 5, none⟩ = some (.bool sf) := HY.out.one 5
    have p6 : w1.cell? ⟨w.heap.size, 6, none⟩ = some (.slice sgo sgn sgc) := HY.out.one 6
    have p7 : w1.cell? ⟨w.heap.size, 7, none⟩ = some (.slice sio sinn sic) := HY.out.one 7
    have p8 : w1.cell? ⟨w.heap.size, 8, none⟩ = some (.slice sjo sjn sjc) := HY.out.one 8
    have q0 : w1.cell? ⟨w.heap.size + 1, 0, none⟩ = some (.bool ta) := HY.out.two 0
    have q1 : w1.cell? ⟨w.heap.size + 1, 1, none⟩ = some (.bool tb) := HY.out.two 1
    have q2 : w1.cell? ⟨w.heap.size + 1, 2, none⟩ = some (.bool tc) := HY.out.two 2
    have q3 : w1.cell? ⟨w.heap.size + 1, 3, none⟩ = some (.bool td) := HY.out.two 3
    have q4 : w1.cell? ⟨w.heap.size + 1, 4, none⟩ = some (.slice teo ten tec) := HY.out.two 4
    have q5 : w1.cell? ⟨w.heap.size + 1, 5, none⟩ = some (.bool tf) := HY.out.two 5
    have q6 : w1.cell? ⟨w.heap.size + 1, 6, none⟩ = some (.slice tgo tgn tgc) := HY.out.two 6
    have q7 : w1.cell? ⟨w.heap.size + 1, 7, none⟩ = some (.slice tio tinn tic) := HY.out.two 7
    have q8 : w1.cell? ⟨w.heap.size + 1, 8, none⟩ = some (.slice tjo tjn tjc) := HY.out.two 8
    have HR : Hid (R = z) := HG.out
    clear HG
    go_wp2_with fail
    refine (HIh.out _ HY.out.below).mono ?_
    rintro e w2 ⟨rfl, hb2⟩
    have HZ := Hid.mk (HY.out.keep hb2)
    clear hb2 p0 q0 p1 q1 p2 q2 p3 q3 p4 q4 p5 q5 p6 q6 p7 q7 p8 q8
    go_wp2_with fail
    go_ret
    exact ⟨by rw [HR.out]; rfl, HZ.out.below⟩
  · have HR : Hid (R = s) := by show _ = _; rw [HG.out]; unfold Pl.orI; rw [if_neg h0]
    have h0' : (s != 0) = true := by simpa using h0
    clear h0 HG
    go_wp2_with fail
    go_ret
    exact ⟨by rw [HR.out]; rfl, HY.out.below⟩
end Go.Proofs.Ytahknjhphbpmiaa
