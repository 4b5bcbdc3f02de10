import Derived.Test.YtahknjhphbpmiaaZCM4
import Derived.Test.YtahknjhphbpmiaaZCM3t
namespace Go.Proofs.Ytahknjhphbpmiaa
open Go.RowKit Go.Shelf Go.Sort
set_option linter.unusedVariables false
set_option linter.unusedSimpArgs false
attribute [local go_sem] Oper.semAt_some


set_option maxRecDepth 100000 in
set_option maxHeartbeats 3200000 in
theorem w_byObj (h : Nat) (ih : FcT h) : FcO h := by
  intro a b ko fo mo lo go po kc fc mc lc gc pc c0 c1 c2 c3 c4 c5 c6 c7 c8 d0 d1 d2 d3 d4 d5 d6 d7 d8 w ha hb
  have HR1 := Hid.mk (fun u (hu : Below w.heap.size w u) => ih a.rest b.rest _ _ u (ha.rest.keep hu) (hb.rest.keep hu))
  have HF1 := Hid.mk (fun u (hu : Below w.heap.size w u) => w_cfType h ih fo _ fc a.fields go _ gc b.fields u (⟨(ha.keep hu).fd⟩) (⟨(hb.keep hu).fd⟩) rfl rfl ha.caps.2.1 hb.caps.2.1 ha.lens.2.1 hb.lens.2.1)
  have HN1 := Hid.mk (fun u (hu : Below w.heap.size w u) => w_slCompare ko _ kc a.names lo _ lc b.names u (ha.nm.keep hu) (hb.nm.keep hu) rfl rfl ha.caps.1 hb.caps.1 ha.lens.1 hb.lens.1)
  have HM1 := Hid.mk (fun u (hu : Below w.heap.size w u) => w_cfBool mo _ mc a.must po _ pc b.must u (ha.ms.keep hu) (hb.ms.keep hu) rfl rfl ha.caps.2.2 hb.caps.2.2 ha.lens.2.2.1 hb.lens.2.2.1)
  have har := ha.rest
  have hbr := hb.rest
  obtain ⟨sa, sb, sc, sd, ⟨seo, sen, sec⟩, sf, ⟨sgo, sgn, sgc⟩, ⟨sio, sinn, sic⟩, ⟨sjo, sjn, sjc⟩, eshs⟩ := inT_shape har
  simp only [Value.agg.injEq, Array.mk.injEq, List.cons.injEq, and_true] at eshs
  obtain ⟨rfl, rfl, rfl, rfl, rfl, rfl, rfl, rfl, rfl⟩ := eshs
  obtain ⟨ta, tb, tc, td, ⟨teo, ten, tec⟩, tf, ⟨tgo, tgn, tgc⟩, ⟨tio, tinn, tic⟩, ⟨tjo, tjn, tjc⟩, esht⟩ := inT_shape hbr
  simp only [Value.agg.injEq, Array.mk.injEq, List.cons.injEq, and_true] at esht
  obtain ⟨rfl, rfl, rfl, rfl, rfl, rfl, rfl, rfl, rfl⟩ := esht
  have HG : Hid (obC (cmpTy h) a b = Pl.orI (Pl.orI (listC keyC a.names b.names) (listC setC a.must b.must)) (Pl.orI (listC (cmpTy h) a.fields b.fields) (cmpTy h a.rest b.rest))) := rfl
  obtain ⟨R, hR⟩ : ∃ R, obC (cmpTy h) a b = R := ⟨_, rfl⟩
  rw [hR] at HG ⊢
  generalize cmpTy h a.rest b.rest = z at HR1 HG
  generalize listC (cmpTy h) a.fields b.fields = f at HF1 HG
  generalize listC keyC a.names b.names = x at HN1 HG
  generalize listC setC a.must b.must = y at HM1 HG
  generalize a.names.length = K1 at *
  generalize a.fields.length = F1 at *
  generalize a.must.length = M1 at *
  generalize b.names.length = K2 at *
  generalize b.fields.length = F2 at *
  generalize b.must.length = M2 at *
  clear ha hb har hbr hR ih
  have HX := Hid.mk (bx2_new w #[.slice ko K1 kc, .slice fo F1 fc, .slice mo M1 mc, .bool sa, .bool sb, .bool sc, .bool sd, .slice seo sen sec, .bool sf, .slice sgo sgn sgc, .slice sio sinn sic, .slice sjo sjn sjc] #[.slice lo K2 lc, .slice go F2 gc, .slice po M2 pc, .bool ta, .bool tb, .bool tc, .bool td, .slice teo ten tec, .bool tf, .slice tgo tgn tgc, .slice tio tinn tic, .slice tjo tjn tjc] 67)
  obtain ⟨W0, hW0⟩ : ∃ W0, (w.alloc (.cells #[.slice ko K1 kc, .slice fo F1 fc, .slice mo M1 mc, .bool sa, .bool sb, .bool sc, .bool sd, .slice seo sen sec, .bool sf, .slice sgo sgn sgc, .slice sio sinn sic, .slice sjo sjn sjc] 67)).alloc (.cells #[.slice lo K2 lc, .slice go F2 gc, .slice po M2 pc, .bool ta, .bool tb, .bool tc, .bool td, .slice teo ten tec, .bool tf, .slice tgo tgn tgc, .slice tio tinn tic, .slice tjo tjn tjc] 67) = W0 := ⟨_, rfl⟩
  rw [hW0] at HX
  have p0 : W0.cell? ⟨w.heap.size, 0, none⟩ = some (.slice ko K1 kc) := HX.out.one 0
  have p2 : W0.cell? ⟨w.heap.size, 2, none⟩ = some (.slice mo M1 mc) := HX.out.one 2
  have q0 : W0.cell? ⟨w.heap.size + 1, 0, none⟩ = some (.slice lo K2 lc) := HX.out.two 0
  have q2 : W0.cell? ⟨w.heap.size + 1, 2, none⟩ = some (.slice po M2 pc) := HX.out.two 2
  have C1 := Hid.mk (fun (d : Nat) (os : Array Obj) => (HN1.out (grow (redrawn W0 d) os) (HX.out.below.trans ((below_regrown W0 d os).mono HX.out.below.size))).mono (fun e w' k => (⟨k.1, by rw [k.2]; exact Below.refl _ _⟩ : e = .returned (.int .i64 x) ∧ Below (grow (redrawn W0 d) os).heap.size (grow (redrawn W0 d) os) w')))
  have C2 := Hid.mk (fun (d : Nat) (os : Array Obj) => (HM1.out (grow (redrawn W0 d) os) (HX.out.below.trans ((below_regrown W0 d os).mono HX.out.below.size))).mono (fun e w' k => (⟨k.1, by rw [k.2]; exact Below.refl _ _⟩ : e = .returned (.int .i64 y) ∧ Below (grow (redrawn W0 d) os).heap.size (grow (redrawn W0 d) os) w')))
  clear HN1 HM1
  have Ap0 := fun d os => cell_regrown p0 d os
  have Ap2 := fun d os => cell_regrown p2 d os
  have Aq0 := fun d os => cell_regrown q0 d os
  have Aq2 := fun d os => cell_regrown q2 d os
  go_enter Try.func71, Try.ntmps71
  go_wp2_with fail
  refine wp_region_quiet_at 10 (by kernel_rfl) (by kernel_rfl) (by kernel_rfl) (by kernel_rfl) (by kernel_rfl) ?_
  simp only [List.take_succ_cons, List.take_zero, List.drop_succ_cons, List.drop_zero]
  iterate 5 (go_big_quiet_step (exact Calls.regrown_of (C1.out _ _)))
  iterate 5 (go_big_quiet_step (exact Calls.regrown_of (C2.out _ _)))
  refine wpQuiet_nil ?_
  intro w9 hw'
  have hb9 : Below W0.heap.size W0 w9 := by
    obtain ⟨⟨dq, osq⟩, rfl⟩ := hw'
    exact below_regrown W0 dq osq
  have HX9 := Hid.mk (HX.out.keep hb9)
  clear hw' hb9 hW0 Ap0 Ap2 Aq0 Aq2 p0 p2 q0 q2 C1 C2 HX
  go_wp2_with fail
  refine (w_Or2 w9.heap.size x y _ (by simp) (by simp)).mono ?_
  rintro e w1 ⟨rfl, hw1⟩
  have HY := Hid.mk (HX9.out.keep (u' := w1) (by rw [hw1]; exact below1 _ _))
  clear hw1 HX9
  generalize Pl.orI x y = s at HG ⊢
  by_cases h0 : s = 0
  · subst h0
    have HG2 : Hid (R = Pl.orI f z) := HG.out
    clear HG
    have p1 : w1.cell? ⟨w.heap.size, 1, none⟩ = some (.slice fo F1 fc) := HY.out.one 1
    have q1 : w1.cell? ⟨w.heap.size + 1, 1, none⟩ = some (.slice go F2 gc) := HY.out.two 1
    go_wp2_with fail
    refine (HF1.out _ HY.out.below).mono ?_
    rintro e w2 ⟨rfl, hb2⟩
    have HZ := Hid.mk (HY.out.keep hb2)
    clear hb2 p1 q1 HY
    have HY := HZ
    clear HZ
    by_cases h1 : f = 0
    · subst h1
      have p3 : w2.cell? ⟨w.heap.size, 3, none⟩ = some (.bool sa) := HY.out.one 3
      have p4 : w2.cell? ⟨w.heap.size, 4, none⟩ = some (.bool sb) := HY.out.one 4
      have p5 : w2.cell? ⟨w.heap.size, 5, none⟩ = some (.bool sc) := HY.out.one 5
      have p6 : w2.cell? ⟨w.heap.size, 6, none⟩ = some (.bool sd) := HY.out.one 6
      have p7 : w2.cell? ⟨w.heap.size, 7, none⟩ = some (.slice seo sen sec) := HY.out.one 7
      have p8 : w2.cell? ⟨w.heap.size, 8, none⟩ = some (.bool sf) := HY.out.one 8
      have p9 : w2.cell? ⟨w.heap.size, 9, none⟩ = some (.slice sgo sgn sgc) := HY.out.one 9
      have p10 : w2.cell? ⟨w.heap.size, 10, none⟩ = some (.slice sio sinn sic) := HY.out.one 10
      have p11 : w2.cell? ⟨w.heap.size, 11, none⟩ = some (.slice sjo sjn sjc) := HY.out.one 11
      have q3 : w2.cell? ⟨w.heap.size + 1, 3, none⟩ = some (.bool ta) := HY.out.two 3
      have q4 : w2.cell? ⟨w.heap.size + 1, 4, none⟩ = some (.bool tb) := HY.out.two 4
      have q5 : w2.cell? ⟨w.heap.size + 1, 5, none⟩ = some (.bool tc) := HY.out.two 5
      have q6 : w2.cell? ⟨w.heap.size + 1, 6, none⟩ = some (.bool td) := HY.out.two 6
      have q7 : w2.cell? ⟨w.heap.size + 1, 7, none⟩ = some (.slice teo ten tec) := HY.out.two 7
      have q8 : w2.cell? ⟨w.heap.size + 1, 8, none⟩ = some (.bool tf) := HY.out.two 8
      have q9 : w2.cell? ⟨w.heap.size + 1, 9, none⟩ = some (.slice tgo tgn tgc) := HY.out.two 9
      have q10 : w2.cell? ⟨w.heap.size + 1, 10, none⟩ = some (.slice tio tinn tic) := HY.out.two 10
      have q11 : w2.cell? ⟨w.heap.size + 1, 11, none⟩ = some (.slice tjo tjn tjc) := HY.out.two 11
      have HR : Hid (R = z) := HG2.out
      clear HG2
      go_wp2_with fail
      refine (HR1.out _ HY.out.below).mono ?_
      rintro e w3 ⟨rfl, hb3⟩
      have HZ := Hid.mk (HY.out.keep hb3)
      clear hb3 p3 q3 p4 q4 p5 q5 p6 q6 p7 q7 p8 q8 p9 q9 p10 q10 p11 q11
      go_wp2_with fail
      go_ret
      exact ⟨by rw [HR.out]; rfl, HZ.out.below⟩
    · have HR : Hid (R = f) := by show _ = _; rw [HG2.out]; unfold Pl.orI; rw [if_neg h1]
      have h1' : (f != 0) = true := by simpa using h1
      clear h1 HG2
      go_wp2_with fail
      go_ret
      exact ⟨by rw [HR.out]; rfl, HY.out.below⟩
  · have HR : Hid (R = s) := by show _ = _; rw [HG.out]; unfold Pl.orI; rw [if_neg h0]
    have h0' : (s != 0) = true := by simpa using h0
    clear h0 HG
    go_wp2_with fail
    go_ret
    exact ⟨by rw [HR.out]; rfl, HY.out.below⟩
end Go.Proofs.Ytahknjhphbpmiaa
