import Derived.Test.YtdjoelhiahpmlaaM46
import Derived.Laws.EntriesVeiled
namespace Go.Proofs.Ytdjoelhiahpmlaa
open Go.RowKit Go.Shelf Go.Sort
set_option linter.unusedVariables false
set_option linter.unusedSimpArgs false
attribute [local go_sem] Oper.semAt_some


set_option maxRecDepth 100000 in
set_option maxHeartbeats 3200000 in
theorem w_byArr (h : Nat) (ih : FcT h) : FcA h := by
  intro a b c0 c1 c2 c3 c4 c5 c6 c7 c8 d0 d1 d2 d3 d4 d5 d6 d7 d8 w ha hb
  have HIh := Hid.mk (fun u (hu : Below w.heap.size w u) => ih a.item b.item _ _ u (ha.keep hu) (hb.keep hu))
  obtain ⟨sa, sb, sc, sd, ⟨seo, sen, sec⟩, sf, ⟨sgo, sgn, sgc⟩, ⟨sio, sinn, sic⟩, ⟨sjo, sjn, sjc⟩, eshs⟩ := inT_shape ha
  simp only [Value.agg.injEq, Array.mk.injEq, List.cons.injEq, and_true] at eshs
  obtain ⟨rfl, rfl, rfl, rfl, rfl, rfl, rfl, rfl, rfl⟩ := eshs
  obtain ⟨ta, tb, tc, td, ⟨teo, ten, tec⟩, tf, ⟨tgo, tgn, tgc⟩, ⟨tio, tinn, tic⟩, ⟨tjo, tjn, tjc⟩, esht⟩ := inT_shape hb
  simp only [Value.agg.injEq, Array.mk.injEq, List.cons.injEq, and_true] at esht
  obtain ⟨rfl, rfl, rfl, rfl, rfl, rfl, rfl, rfl, rfl⟩ := esht
  have HG : Hid (arC (cmpTy h) a b = Pl.orI (Pl.orI (Pl.cmpI a.min b.min) (maxC a.max b.max)) (cmpTy h a.item b.item)) := rfl
  obtain ⟨R, hR⟩ : ∃ R, arC (cmpTy h) a b = R := ⟨_, rfl⟩
  rw [hR] at HG ⊢
  generalize cmpTy h a.item b.item = z at HIh HG
  generalize a.min = m1 at *
  generalize a.max = n1 at *
  generalize b.min = m2 at *
  generalize b.max = n2 at *
  clear ha hb hR ih
  have HX := Hid.mk (bx2_new w #[.bool sa, .bool sb, .bool sc, .bool sd, .slice seo sen sec, .bool sf, .slice sgo sgn sgc, .slice sio sinn sic, .slice sjo sjn sjc, .int .i64 m1, .int .i64 n1] #[.bool ta, .bool tb, .bool tc, .bool td, .slice teo ten tec, .bool tf, .slice tgo tgn tgc, .slice tio tinn tic, .slice tjo tjn tjc, .int .i64 m2, .int .i64 n2] 50)
  obtain ⟨W0, hW0⟩ : ∃ W0, (w.alloc (.cells #[.bool sa, .bool sb, .bool sc, .bool sd, .slice seo sen sec, .bool sf, .slice sgo sgn sgc, .slice sio sinn sic, .slice sjo sjn sjc, .int .i64 m1, .int .i64 n1] 50)).alloc (.cells #[.bool ta, .bool tb, .bool tc, .bool td, .slice teo ten tec, .bool tf, .slice tgo tgn tgc, .slice tio tinn tic, .slice tjo tjn tjc, .int .i64 m2, .int .i64 n2] 50) = W0 := ⟨_, rfl⟩
  rw [hW0] at HX
  have p9 : W0.cell? ⟨w.heap.size, 9, none⟩ = some (.int .i64 m1) := HX.out.one 9
  have p10 : W0.cell? ⟨w.heap.size, 10, none⟩ = some (.int .i64 n1) := HX.out.one 10
  have q9 : W0.cell? ⟨w.heap.size + 1, 9, none⟩ = some (.int .i64 m2) := HX.out.two 9
  have q10 : W0.cell? ⟨w.heap.size + 1, 10, none⟩ = some (.int .i64 n2) := HX.out.two 10
  have C1 := Hid.mk (fun (d : Nat) (os : Array Obj) => (w_CompareInt m1 m2 (grow (redrawn W0 d) os)).mono (fun e w' k => (⟨k.1, by rw [k.2]; exact Below.refl _ _⟩ : e = .returned (.int .i64 (Pl.cmpI m1 m2)) ∧ Below (grow (redrawn W0 d) os).heap.size (grow (redrawn W0 d) os) w')))
  have C2 := Hid.mk (fun (d : Nat) (os : Array Obj) => (w_byMax n1 n2 (grow (redrawn W0 d) os)).mono (fun e w' k => (⟨k.1, by rw [k.2]; exact Below.refl _ _⟩ : e = .returned (.int .i64 (maxC n1 n2)) ∧ Below (grow (redrawn W0 d) os).heap.size (grow (redrawn W0 d) os) w')))
  generalize Pl.cmpI m1 m2 = x at C1 HG
  generalize maxC n1 n2 = y at C2 HG
  have Ap9 := fun d os => cell_regrown p9 d os
  have Ap10 := fun d os => cell_regrown p10 d os
  have Aq9 := fun d os => cell_regrown q9 d os
  have Aq10 := fun d os => cell_regrown q10 d os
  go_enter Try.func73, Try.ntmps73
  go_wp2_with fail
  refine wp_region_quiet_at 10 (by kernel_rfl) (by kernel_rfl) (by kernel_rfl) (by kernel_rfl) (by kernel_rfl) ?_
  simp only [List.take_succ_cons, List.take_zero, List.drop_succ_cons, List.drop_zero]
  iterate 5 (go_big_quiet_step (exact Calls.regrown_of (C1.out _ _)))
  iterate 5 (go_big_quiet_step (exact Calls.regrown_of (C2.out _ _)))
  refine wpQuiet_nil ?_
  intro w9 hw'
  have hb9 : Below W0.heap.size W0 w9 := by
    obtain ⟨⟨dq, osq⟩, rfl⟩ := hw'
    exact below_regrown W0 dq osq
  have HX9 := Hid.mk (HX.out.keep hb9)
  clear hw' hb9 hW0 Ap9 Ap10 Aq9 Aq10 p9 p10 q9 q10 C1 C2 HX
  go_wp2_with fail
  refine (w_Or2 w9.heap.size x y _ (by simp) (by simp)).mono ?_
  rintro e w1 ⟨rfl, hw1⟩
  have HY := Hid.mk (HX9.out.keep (u' := w1) (by rw [hw1]; exact below1 _ _))
  clear hw1 HX9
  generalize Pl.orI x y = s at HG ⊢
  by_cases h0 : s = 0
  · subst h0
    have p0 : w1.cell? ⟨w.heap.size, 0, none⟩ = some (.bool sa) := HY.out.one 0
    have p1 : w1.cell? ⟨w.heap.size, 1, none⟩ = some (.bool sb) := HY.out.one 1
    have p2 : w1.cell? ⟨w.heap.size, 2, none⟩ = some (.bool sc) := HY.out.one 2
    have p3 : w1.cell? ⟨w.heap.size, 3, none⟩ = some (.bool sd) := HY.out.one 3
    have p4 : w1.cell? ⟨w.heap.size, 4, none⟩ = some (.slice seo sen sec) := HY.out.one 4
    have p5 : w1.cell? ⟨w.heap.size, 5, none⟩ = some (.bool sf) := HY.out.one 5
    have p6 : w1.cell? ⟨w.heap.size, 6, none⟩ = some (.slice sgo sgn sgc) := HY.out.one 6
    have p7 : w1.cell? ⟨w.heap.size, 7, none⟩ = some (.slice sio sinn sic) := HY.out.one 7
    have p8 : w1.cell? ⟨w.heap.size, 8, none⟩ = some (.slice sjo sjn sjc) := HY.out.one 8
    have q0 : w1.cell? ⟨w.heap.size + 1, 0, none⟩ = some (.bool ta) := HY.out.two 0
    have q1 : w1.cell? ⟨w.heap.size + 1, 1, none⟩ = some (.bool tb) := HY.out.two 1
    have q2 : w1.cell? ⟨w.heap.size + 1, 2, none⟩ = some (.bool tc) := HY.out.two 2
    have q3 : w1.cell? ⟨w.heap.size + 1, 3, none⟩ = some (.bool td) := HY.out.two 3
    have q4 : w1.cell? ⟨w.heap.size + 1, 4, none⟩ = some (.slice teo ten tec) := HY.out.two 4
    have q5 : w1.cell? ⟨w.heap.size + 1, 5, none⟩ = some (.bool tf) := HY.out.two 5
    have q6 : w1.cell? ⟨w.heap.size + 1, 6, none⟩ = some (.slice tgo tgn tgc) := HY.out.two 6
    have q7 : w1.cell? ⟨w.heap.size + 1, 7, none⟩ = some (.slice tio tinn tic) := HY.out.two 7
    have q8 : w1.cell? ⟨w.heap.size + 1, 8, none⟩ = some (.slice tjo tjn tjc) := HY.out.two 8
    have HR : Hid (R = z) := HG.out
    clear HG
    go_wp2_with fail
    refine (HIh.out _ HY.out.below).mono ?_
    rintro e w2 ⟨rfl, hb2⟩
    have HZ := Hid.mk (HY.out.keep hb2)
    clear hb2 p0 q0 p1 q1 p2 q2 p3 q3 p4 q4 p5 q5 p6 q6 p7 q7 p8 q8
    go_wp2_with fail
    go_ret
    exact ⟨by rw [HR.out]; rfl, HZ.out.below⟩
  · have HR : Hid (R = s) := by show _ = _; rw [HG.out]; unfold Pl.orI; rw [if_neg h0]
    have h0' : (s != 0) = true := by simpa using h0
    clear h0 HG
    go_wp2_with fail
    go_ret
    exact ⟨by rw [HR.out]; rfl, HY.out.below⟩
end Go.Proofs.Ytdjoelhiahpmlaa
namespace Go.Proofs.Ytdjoelhiahpmlaa
open Go.RowKit Go.Shelf Go.Sort
set_option linter.unusedVariables false
set_option linter.unusedSimpArgs false
attribute [local go_sem] Oper.semAt_some


set_option maxRecDepth 100000 in
set_option maxHeartbeats 6400000 in
theorem w_cfType (h : Nat) (ih : FcT h) (ao : Option Addr) (M acap : Nat) (xs : List (TT)) (bo : Option Addr) (N bcap : Nat) (ys : List (TT)) (w : World) (ha : TyIn w h ao xs) (hb : TyIn w h bo ys) (hM : xs.length = M) (hN : ys.length = N) (hac : M ≤ acap) (hbc : N ≤ bcap) (hM2 : M ≤ 140737488355328) (hN2 : N ≤ 140737488355328) :
    Calls Try.prog 81 #[.slice ao M acap, .slice bo N bcap, .func (.func 59) #[] #[]] w fun e w' => e = .returned (.int .i64 (listC (cmpTy h) xs ys)) ∧ Below w.heap.size w w' := by
  have HA := Hid.mk ha
  have HB := Hid.mk hb
  have HM := Hid.mk hM
  have HN := Hid.mk hN
  have HIh := Hid.mk ih
  clear ih
  clear ha hb hM hN
  go_enter Try.func81, Try.ntmps81
  go_wp2_with fail
  go_loopw [13] (fun i wr => ∃ k : Nat, k ≤ M ∧ k ≤ N ∧ i = .int .i64 (k : Int) ∧ Hid (Below w.heap.size w wr) ∧ Hid (listC (cmpTy h) xs ys = listC (cmpTy h) (xs.drop k) (ys.drop k))) (fun i _ => M - (intOf i).toNat)
  case atStart => exact ⟨0, Nat.zero_le _, Nat.zero_le _, rfl, Below.refl _ _, rfl⟩
  case round =>
    obtain ⟨k, hk, hk2, rfl, HBw, HQ⟩ := hrel
    by_cases hlt : k < M
    · have hl1 : (k : Int) < (M : Int) := by omega
      have hka : k < xs.length := by rw [HM.out]; exact hlt
      obtain ⟨b, off, hko, hbl, hrow⟩ := (HA.out.keep HBw.out).row (by omega)
      subst hko
      obtain ⟨u0, u1, u2, u3, u4, u5, u6, u7, u8, ⟨c0, c1, c2, c3, c4, c5, c6, c7, c8⟩, ht⟩ := hrow k hka
      obtain ⟨sa, sb, sc, sd, ⟨seo, sen, sec⟩, sf, ⟨sgo, sgn, sgc⟩, ⟨sio, sinn, sic⟩, ⟨sjo, sjn, sjc⟩, eshs⟩ := inT_shape ht
      simp only [Value.agg.injEq, Array.mk.injEq, List.cons.injEq, and_true] at eshs
      obtain ⟨rfl, rfl, rfl, rfl, rfl, rfl, rfl, rfl, rfl⟩ := eshs
      by_cases hlt2 : k < N
      · have hl2 : ¬ (N : Int) ≤ (k : Int) := by omega
        have hl3 : (k : Int) < (N : Int) := by omega
        have hkb : k < ys.length := by rw [HN.out]; exact hlt2
        obtain ⟨b2, off2, hko2, hbl2, hrow2⟩ := (HB.out.keep HBw.out).row (by omega)
        subst hko2
        obtain ⟨v0, v1, v2, v3, v4, v5, v6, v7, v8, ⟨d0, d1, d2, d3, d4, d5, d6, d7, d8⟩, hu⟩ := hrow2 k hkb
        obtain ⟨ta, tb, tc, td, ⟨teo, ten, tec⟩, tf, ⟨tgo, tgn, tgc⟩, ⟨tio, tinn, tic⟩, ⟨tjo, tjn, tjc⟩, esht⟩ := inT_shape hu
        simp only [Value.agg.injEq, Array.mk.injEq, List.cons.injEq, and_true] at esht
        obtain ⟨rfl, rfl, rfl, rfl, rfl, rfl, rfl, rfl, rfl⟩ := esht
        have HBx := Hid.mk (below2 wr (.cells #[.bool sa, .bool sb, .bool sc, .bool sd, .slice seo sen sec, .bool sf, .slice sgo sgn sgc, .slice sio sinn sic, .slice sjo sjn sjc] 33) (.cells #[.bool ta, .bool tb, .bool tc, .bool td, .slice teo ten tec, .bool tf, .slice tgo tgn tgc, .slice tio tinn tic, .slice tjo tjn tjc] 33))
        have HS := Hid.mk (listC_step (c := (cmpTy h)) hka hkb)
        have HC := Hid.mk (HIh.out xs[k] ys[k] _ _ ((wr.alloc (.cells #[.bool sa, .bool sb, .bool sc, .bool sd, .slice seo sen sec, .bool sf, .slice sgo sgn sgc, .slice sio sinn sic, .slice sjo sjn sjc] 33)).alloc (.cells #[.bool ta, .bool tb, .bool tc, .bool td, .slice teo ten tec, .bool tf, .slice tgo tgn tgc, .slice tio tinn tic, .slice tjo tjn tjc] 33)) (ht.keep HBx.out) (hu.keep HBx.out))
        have e0 : ∀ j o, (wr.alloc o).cell? ⟨b2, j, none⟩ = wr.cell? ⟨b2, j, none⟩ := fun j o => (below1 wr o).cell (p := ⟨b2, j, none⟩) hbl2
        have d0' := fun o => (e0 _ o).trans d0
        have d1' := fun o => (e0 _ o).trans d1
        have d2' := fun o => (e0 _ o).trans d2
        have d3' := fun o => (e0 _ o).trans d3
        have d4' := fun o => (e0 _ o).trans d4
        have d5' := fun o => (e0 _ o).trans d5
        have d6' := fun o => (e0 _ o).trans d6
        have d7' := fun o => (e0 _ o).trans d7
        have d8' := fun o => (e0 _ o).trans d8
        generalize (cmpTy h) xs[k] ys[k] = c at *
        clear hrow hrow2 hbl hbl2 hka hkb ht hu e0 d0 d1 d2 d3 d4 d5 d6 d7 d8
        by_cases h0 : c = 0
        · have HN2 : Hid (listC (cmpTy h) xs ys = listC (cmpTy h) (xs.drop (k + 1)) (ys.drop (k + 1))) := by show _ = _; rw [HQ.out, HS.out, if_pos h0]
          subst h0
          clear HS
          go_wp2_with fail
          refine HC.out.mono ?_
          rintro e w2 ⟨rfl, hb2⟩
          have HB2 := Hid.mk (HBw.out.trans ((below_more HBx.out hb2).mono HBw.out.size))
          clear hb2 c0 c1 c2 c3 c4 c5 c6 c7 c8 d0' d1' d2' d3' d4' d5' d6' d7' d8'
          go_wp2_with fail
          go_roundw
          case rel => exact ⟨k + 1, hlt, hlt2, by go_num, HB2, HN2⟩
          case measure => simp [intOf]; omega
        · have HN2 : Hid (listC (cmpTy h) xs ys = c) := by show _ = _; rw [HQ.out, HS.out, if_neg h0]
          have h0' : (c != 0) = true := by simpa using h0
          clear h0 HS
          go_wp2_with fail
          refine HC.out.mono ?_
          rintro e w2 ⟨rfl, hb2⟩
          have HB2 := Hid.mk (HBw.out.trans ((below_more HBx.out hb2).mono HBw.out.size))
          clear hb2 c0 c1 c2 c3 c4 c5 c6 c7 c8 d0' d1' d2' d3' d4' d5' d6' d7' d8'
          go_wp2_with fail
          go_ret
          exact ⟨by rw [HN2.out]; rfl, HB2.out⟩
      · have hl2 : (N : Int) ≤ (k : Int) := by omega
        have HF : Hid (listC (cmpTy h) xs ys = 1) := by show _ = _; rw [HQ.out]; exact listC_more hka (by rw [HN.out]; omega)
        have HBx := Hid.mk (HBw.out.trans ((below1 wr (.cells #[.bool sa, .bool sb, .bool sc, .bool sd, .slice seo sen sec, .bool sf, .slice sgo sgn sgc, .slice sio sinn sic, .slice sjo sjn sjc] 33)).mono HBw.out.size))
        clear hrow hbl ht
        clear hka
        go_wp2_with fail
        go_ret
        exact ⟨by rw [HF.out]; rfl, HBx.out⟩
    · have hl1 : ¬ (k : Int) < (M : Int) := by omega
      by_cases hlt2 : M < N
      · have hl2 : (M : Int) < (N : Int) := by omega
        have HF : Hid (listC (cmpTy h) xs ys = -1) := by show _ = _; rw [HQ.out]; exact listC_less (by rw [HM.out]; omega) (by rw [HN.out]; omega)
        go_wp2_with fail
        go_ret
        exact ⟨by rw [HF.out]; rfl, HBw.out⟩
      · have hl2 : ¬ (M : Int) < (N : Int) := by omega
        have HF : Hid (listC (cmpTy h) xs ys = 0) := by show _ = _; rw [HQ.out]; exact listC_even (by rw [HM.out]; omega) (by rw [HN.out]; omega)
        go_wp2_with fail
        go_ret
        exact ⟨by rw [HF.out]; rfl, HBw.out⟩
end Go.Proofs.Ytdjoelhiahpmlaa
namespace Go.Proofs.Ytdjoelhiahpmlaa
open Go.RowKit Go.Shelf Go.Sort
set_option linter.unusedVariables false
set_option linter.unusedSimpArgs false
attribute [local go_sem] Oper.semAt_some


set_option maxRecDepth 100000 in
set_option maxHeartbeats 3200000 in
theorem w_byObj (h : Nat) (ih : FcT h) : FcO h := by
  intro a b ko fo mo lo go po kc fc mc lc gc pc c0 c1 c2 c3 c4 c5 c6 c7 c8 d0 d1 d2 d3 d4 d5 d6 d7 d8 w ha hb
  have HR1 := Hid.mk (fun u (hu : Below w.heap.size w u) => ih a.rest b.rest _ _ u (ha.rest.keep hu) (hb.rest.keep hu))
  have HF1 := Hid.mk (fun u (hu : Below w.heap.size w u) => w_cfType h ih fo _ fc a.fields go _ gc b.fields u (⟨(ha.keep hu).fd⟩) (⟨(hb.keep hu).fd⟩) rfl rfl ha.caps.2.1 hb.caps.2.1 ha.lens.2.1 hb.lens.2.1)
  have HN1 := Hid.mk (fun u (hu : Below w.heap.size w u) => w_slCompare ko _ kc a.names lo _ lc b.names u (ha.nm.keep hu) (hb.nm.keep hu) rfl rfl ha.caps.1 hb.caps.1 ha.lens.1 hb.lens.1)
  have HM1 := Hid.mk (fun u (hu : Below w.heap.size w u) => w_cfBool mo _ mc a.must po _ pc b.must u (ha.ms.keep hu) (hb.ms.keep hu) rfl rfl ha.caps.2.2 hb.caps.2.2 ha.lens.2.2.1 hb.lens.2.2.1)
  have har := ha.rest
  have hbr := hb.rest
  obtain ⟨sa, sb, sc, sd, ⟨seo, sen, sec⟩, sf, ⟨sgo, sgn, sgc⟩, ⟨sio, sinn, sic⟩, ⟨sjo, sjn, sjc⟩, eshs⟩ := inT_shape har
  simp only [Value.agg.injEq, Array.mk.injEq, List.cons.injEq, and_true] at eshs
  obtain ⟨rfl, rfl, rfl, rfl, rfl, rfl, rfl, rfl, rfl⟩ := eshs
  obtain ⟨ta, tb, tc, td, ⟨teo, ten, tec⟩, tf, ⟨tgo, tgn, tgc⟩, ⟨tio, tinn, tic⟩, ⟨tjo, tjn, tjc⟩, esht⟩ := inT_shape hbr
  simp only [Value.agg.injEq, Array.mk.injEq, List.cons.injEq, and_true] at esht
  obtain ⟨rfl, rfl, rfl, rfl, rfl, rfl, rfl, rfl, rfl⟩ := esht
  have HG : Hid (obC (cmpTy h) a b = Pl.orI (Pl.orI (listC keyC a.names b.names) (listC setC a.must b.must)) (Pl.orI (listC (cmpTy h) a.fields b.fields) (cmpTy h a.rest b.rest))) := rfl
  obtain ⟨R, hR⟩ : ∃ R, obC (cmpTy h) a b = R := ⟨_, rfl⟩
  rw [hR] at HG ⊢
  generalize cmpTy h a.rest b.rest = z at HR1 HG
  generalize listC (cmpTy h) a.fields b.fields = f at HF1 HG
  generalize listC keyC a.names b.names = x at HN1 HG
  generalize listC setC a.must b.must = y at HM1 HG
  generalize a.names.length = K1 at *
  generalize a.fields.length = F1 at *
  generalize a.must.length = M1 at *
  generalize b.names.length = K2 at *
  generalize b.fields.length = F2 at *
  generalize b.must.length = M2 at *
  clear ha hb har hbr hR ih
  have HX := Hid.mk (bx2_new w #[.slice ko K1 kc, .slice fo F1 fc, .slice mo M1 mc, .bool sa, .bool sb, .bool sc, .bool sd, .slice seo sen sec, .bool sf, .slice sgo sgn sgc, .slice sio sinn sic, .slice sjo sjn sjc] #[.slice lo K2 lc, .slice go F2 gc, .slice po M2 pc, .bool ta, .bool tb, .bool tc, .bool td, .slice teo ten tec, .bool tf, .slice tgo tgn tgc, .slice tio tinn tic, .slice tjo tjn tjc] 55)
  obtain ⟨W0, hW0⟩ : ∃ W0, (w.alloc (.cells #[.slice ko K1 kc, .slice fo F1 fc, .slice mo M1 mc, .bool sa, .bool sb, .bool sc, .bool sd, .slice seo sen sec, .bool sf, .slice sgo sgn sgc, .slice sio sinn sic, .slice sjo sjn sjc] 55)).alloc (.cells #[.slice lo K2 lc, .slice go F2 gc, .slice po M2 pc, .bool ta, .bool tb, .bool tc, .bool td, .slice teo ten tec, .bool tf, .slice tgo tgn tgc, .slice tio tinn tic, .slice tjo tjn tjc] 55) = W0 := ⟨_, rfl⟩
  rw [hW0] at HX
  have p0 : W0.cell? ⟨w.heap.size, 0, none⟩ = some (.slice ko K1 kc) := HX.out.one 0
  have p2 : W0.cell? ⟨w.heap.size, 2, none⟩ = some (.slice mo M1 mc) := HX.out.one 2
  have q0 : W0.cell? ⟨w.heap.size + 1, 0, none⟩ = some (.slice lo K2 lc) := HX.out.two 0
  have q2 : W0.cell? ⟨w.heap.size + 1, 2, none⟩ = some (.slice po M2 pc) := HX.out.two 2
  have C1 := Hid.mk (fun (d : Nat) (os : Array Obj) => (HN1.out (grow (redrawn W0 d) os) (HX.out.below.trans ((below_regrown W0 d os).mono HX.out.below.size))).mono (fun e w' k => (⟨k.1, by rw [k.2]; exact Below.refl _ _⟩ : e = .returned (.int .i64 x) ∧ Below (grow (redrawn W0 d) os).heap.size (grow (redrawn W0 d) os) w')))
  have C2 := Hid.mk (fun (d : Nat) (os : Array Obj) => (HM1.out (grow (redrawn W0 d) os) (HX.out.below.trans ((below_regrown W0 d os).mono HX.out.below.size))).mono (fun e w' k => (⟨k.1, by rw [k.2]; exact Below.refl _ _⟩ : e = .returned (.int .i64 y) ∧ Below (grow (redrawn W0 d) os).heap.size (grow (redrawn W0 d) os) w')))
  clear HN1 HM1
  have Ap0 := fun d os => cell_regrown p0 d os
  have Ap2 := fun d os => cell_regrown p2 d os
  have Aq0 := fun d os => cell_regrown q0 d os
  have Aq2 := fun d os => cell_regrown q2 d os
  go_enter Try.func75, Try.ntmps75
  go_wp2_with fail
  refine wp_region_quiet_at 10 (by kernel_rfl) (by kernel_rfl) (by kernel_rfl) (by kernel_rfl) (by kernel_rfl) ?_
  simp only [List.take_succ_cons, List.take_zero, List.drop_succ_cons, List.drop_zero]
  iterate 5 (go_big_quiet_step (exact Calls.regrown_of (C1.out _ _)))
  iterate 5 (go_big_quiet_step (exact Calls.regrown_of (C2.out _ _)))
  refine wpQuiet_nil ?_
  intro w9 hw'
  have hb9 : Below W0.heap.size W0 w9 := by
    obtain ⟨⟨dq, osq⟩, rfl⟩ := hw'
    exact below_regrown W0 dq osq
  have HX9 := Hid.mk (HX.out.keep hb9)
  clear hw' hb9 hW0 Ap0 Ap2 Aq0 Aq2 p0 p2 q0 q2 C1 C2 HX
  go_wp2_with fail
  refine (w_Or2 w9.heap.size x y _ (by simp) (by simp)).mono ?_
  rintro e w1 ⟨rfl, hw1⟩
  have HY := Hid.mk (HX9.out.keep (u' := w1) (by rw [hw1]; exact below1 _ _))
  clear hw1 HX9
  generalize Pl.orI x y = s at HG ⊢
  by_cases h0 : s = 0
  · subst h0
    have HG2 : Hid (R = Pl.orI f z) := HG.out
    clear HG
    have p1 : w1.cell? ⟨w.heap.size, 1, none⟩ = some (.slice fo F1 fc) := HY.out.one 1
    have q1 : w1.cell? ⟨w.heap.size + 1, 1, none⟩ = some (.slice go F2 gc) := HY.out.two 1
    go_wp2_with fail
    refine (HF1.out _ HY.out.below).mono ?_
    rintro e w2 ⟨rfl, hb2⟩
    have HZ := Hid.mk (HY.out.keep hb2)
    clear hb2 p1 q1 HY
    have HY := HZ
    clear HZ
    by_cases h1 : f = 0
    · subst h1
      have p3 : w2.cell? ⟨w.heap.size, 3, none⟩ = some (.bool sa) := HY.out.one 3
      have p4 : w2.cell? ⟨w.heap.size, 4, none⟩ = some (.bool sb) := HY.out.one 4
      have p5 : w2.cell? ⟨w.heap.size, 5, none⟩ = some (.bool sc) := HY.out.one 5
      have p6 : w2.cell? ⟨w.heap.size, 6, none⟩ = some (.bool sd) := HY.out.one 6
      have p7 : w2.cell? ⟨w.heap.size, 7, none⟩ = some (.slice seo sen sec) := HY.out.one 7
      have p8 : w2.cell? ⟨w.heap.size, 8, none⟩ = some (.bool sf) := HY.out.one 8
      have p9 : w2.cell? ⟨w.heap.size, 9, none⟩ = some (.slice sgo sgn sgc) := HY.out.one 9
      have p10 : w2.cell? ⟨w.heap.size, 10, none⟩ = some (.slice sio sinn sic) := HY.out.one 10
      have p11 : w2.cell? ⟨w.heap.size, 11, none⟩ = some (.slice sjo sjn sjc) := HY.out.one 11
      have q3 : w2.cell? ⟨w.heap.size + 1, 3, none⟩ = some (.bool ta) := HY.out.two 3
      have q4 : w2.cell? ⟨w.heap.size + 1, 4, none⟩ = some (.bool tb) := HY.out.two 4
      have q5 : w2.cell? ⟨w.heap.size + 1, 5, none⟩ = some (.bool tc) := HY.out.two 5
      have q6 : w2.cell? ⟨w.heap.size + 1, 6, none⟩ = some (.bool td) := HY.out.two 6
      have q7 : w2.cell? ⟨w.heap.size + 1, 7, none⟩ = some (.slice teo ten tec) := HY.out.two 7
      have q8 : w2.cell? ⟨w.heap.size + 1, 8, none⟩ = some (.bool tf) := HY.out.two 8
      have q9 : w2.cell? ⟨w.heap.size + 1, 9, none⟩ = some (.slice tgo tgn tgc) := HY.out.two 9
      have q10 : w2.cell? ⟨w.heap.size + 1, 10, none⟩ = some (.slice tio tinn tic) := HY.out.two 10
      have q11 : w2.cell? ⟨w.heap.size + 1, 11, none⟩ = some (.slice tjo tjn tjc) := HY.out.two 11
      have HR : Hid (R = z) := HG2.out
      clear HG2
      go_wp2_with fail
      refine (HR1.out _ HY.out.below).mono ?_
      rintro e w3 ⟨rfl, hb3⟩
      have HZ := Hid.mk (HY.out.keep hb3)
      clear hb3 p3 q3 p4 q4 p5 q5 p6 q6 p7 q7 p8 q8 p9 q9 p10 q10 p11 q11
      go_wp2_with fail
      go_ret
      exact ⟨by rw [HR.out]; rfl, HZ.out.below⟩
    · have HR : Hid (R = f) := by show _ = _; rw [HG2.out]; unfold Pl.orI; rw [if_neg h1]
      have h1' : (f != 0) = true := by simpa using h1
      clear h1 HG2
      go_wp2_with fail
      go_ret
      exact ⟨by rw [HR.out]; rfl, HY.out.below⟩
  · have HR : Hid (R = s) := by show _ = _; rw [HG.out]; unfold Pl.orI; rw [if_neg h0]
    have h0' : (s != 0) = true := by simpa using h0
    clear h0 HG
    go_wp2_with fail
    go_ret
    exact ⟨by rw [HR.out]; rfl, HY.out.below⟩
end Go.Proofs.Ytdjoelhiahpmlaa
namespace Go.Proofs.Ytdjoelhiahpmlaa
open Go.RowKit Go.Shelf Go.Sort
set_option linter.unusedVariables false
set_option linter.unusedSimpArgs false
attribute [local go_sem] Oper.semAt_some


set_option maxRecDepth 100000 in
set_option maxHeartbeats 6400000 in
theorem w_cfArr (h : Nat) (ih : FcA h) (ao : Option Addr) (M acap : Nat) (xs : List (AR)) (bo : Option Addr) (N bcap : Nat) (ys : List (AR)) (w : World) (ha : ArIn w h ao xs) (hb : ArIn w h bo ys) (hM : xs.length = M) (hN : ys.length = N) (hac : M ≤ acap) (hbc : N ≤ bcap) (hM2 : M ≤ 140737488355328) (hN2 : N ≤ 140737488355328) :
    Calls Try.prog 72 #[.slice ao M acap, .slice bo N bcap, .func (.func 73) #[] #[]] w fun e w' => e = .returned (.int .i64 (listC (arC (cmpTy h)) xs ys)) ∧ Below w.heap.size w w' := by
  have HA := Hid.mk ha
  have HB := Hid.mk hb
  have HM := Hid.mk hM
  have HN := Hid.mk hN
  have HIh := Hid.mk ih
  clear ih
  clear ha hb hM hN
  go_enter Try.func72, Try.ntmps72
  go_wp2_with fail
  go_loopw [13] (fun i wr => ∃ k : Nat, k ≤ M ∧ k ≤ N ∧ i = .int .i64 (k : Int) ∧ Hid (Below w.heap.size w wr) ∧ Hid (listC (arC (cmpTy h)) xs ys = listC (arC (cmpTy h)) (xs.drop k) (ys.drop k))) (fun i _ => M - (intOf i).toNat)
  case atStart => exact ⟨0, Nat.zero_le _, Nat.zero_le _, rfl, Below.refl _ _, rfl⟩
  case round =>
    obtain ⟨k, hk, hk2, rfl, HBw, HQ⟩ := hrel
    by_cases hlt : k < M
    · have hl1 : (k : Int) < (M : Int) := by omega
      have hka : k < xs.length := by rw [HM.out]; exact hlt
      obtain ⟨b, off, hko, hbl, hrow⟩ := (HA.out.keep HBw.out).row (by omega)
      subst hko
      obtain ⟨u0, u1, u2, u3, u4, u5, u6, u7, u8, ⟨c0, c1, c2, c3, c4, c5, c6, c7, c8⟩, c9, c10, ht⟩ := hrow k hka
      obtain ⟨sa, sb, sc, sd, ⟨seo, sen, sec⟩, sf, ⟨sgo, sgn, sgc⟩, ⟨sio, sinn, sic⟩, ⟨sjo, sjn, sjc⟩, eshs⟩ := inT_shape ht
      simp only [Value.agg.injEq, Array.mk.injEq, List.cons.injEq, and_true] at eshs
      obtain ⟨rfl, rfl, rfl, rfl, rfl, rfl, rfl, rfl, rfl⟩ := eshs
      by_cases hlt2 : k < N
      · have hl2 : ¬ (N : Int) ≤ (k : Int) := by omega
        have hl3 : (k : Int) < (N : Int) := by omega
        have hkb : k < ys.length := by rw [HN.out]; exact hlt2
        obtain ⟨b2, off2, hko2, hbl2, hrow2⟩ := (HB.out.keep HBw.out).row (by omega)
        subst hko2
        obtain ⟨v0, v1, v2, v3, v4, v5, v6, v7, v8, ⟨d0, d1, d2, d3, d4, d5, d6, d7, d8⟩, d9, d10, hu⟩ := hrow2 k hkb
        obtain ⟨ta, tb, tc, td, ⟨teo, ten, tec⟩, tf, ⟨tgo, tgn, tgc⟩, ⟨tio, tinn, tic⟩, ⟨tjo, tjn, tjc⟩, esht⟩ := inT_shape hu
        simp only [Value.agg.injEq, Array.mk.injEq, List.cons.injEq, and_true] at esht
        obtain ⟨rfl, rfl, rfl, rfl, rfl, rfl, rfl, rfl, rfl⟩ := esht
        have HBx := Hid.mk (below2 wr (.cells #[.bool sa, .bool sb, .bool sc, .bool sd, .slice seo sen sec, .bool sf, .slice sgo sgn sgc, .slice sio sinn sic, .slice sjo sjn sjc, .int .i64 xs[k].min, .int .i64 xs[k].max] 50) (.cells #[.bool ta, .bool tb, .bool tc, .bool td, .slice teo ten tec, .bool tf, .slice tgo tgn tgc, .slice tio tinn tic, .slice tjo tjn tjc, .int .i64 ys[k].min, .int .i64 ys[k].max] 50))
        have HS := Hid.mk (listC_step (c := (arC (cmpTy h))) hka hkb)
        have HC := Hid.mk (HIh.out xs[k] ys[k] _ _ _ _ _ _ _ _ _ _ _ _ _ _ _ _ _ _ ((wr.alloc (.cells #[.bool sa, .bool sb, .bool sc, .bool sd, .slice seo sen sec, .bool sf, .slice sgo sgn sgc, .slice sio sinn sic, .slice sjo sjn sjc, .int .i64 xs[k].min, .int .i64 xs[k].max] 50)).alloc (.cells #[.bool ta, .bool tb, .bool tc, .bool td, .slice teo ten tec, .bool tf, .slice tgo tgn tgc, .slice tio tinn tic, .slice tjo tjn tjc, .int .i64 ys[k].min, .int .i64 ys[k].max] 50)) (ht.keep HBx.out) (hu.keep HBx.out))
        have e0 : ∀ j o, (wr.alloc o).cell? ⟨b2, j, none⟩ = wr.cell? ⟨b2, j, none⟩ := fun j o => (below1 wr o).cell (p := ⟨b2, j, none⟩) hbl2
        have d0' := fun o => (e0 _ o).trans d0
        have d1' := fun o => (e0 _ o).trans d1
        have d2' := fun o => (e0 _ o).trans d2
        have d3' := fun o => (e0 _ o).trans d3
        have d4' := fun o => (e0 _ o).trans d4
        have d5' := fun o => (e0 _ o).trans d5
        have d6' := fun o => (e0 _ o).trans d6
        have d7' := fun o => (e0 _ o).trans d7
        have d8' := fun o => (e0 _ o).trans d8
        have d9' := fun o => (e0 _ o).trans d9
        have d10' := fun o => (e0 _ o).trans d10
        generalize (arC (cmpTy h)) xs[k] ys[k] = c at *
        generalize xs[k].min = g0 at *
        generalize xs[k].max = g1 at *
        generalize ys[k].min = g2 at *
        generalize ys[k].max = g3 at *
        clear hrow hrow2 hbl hbl2 hka hkb ht hu e0 d0 d1 d2 d3 d4 d5 d6 d7 d8 d9 d10
        by_cases h0 : c = 0
        · have HN2 : Hid (listC (arC (cmpTy h)) xs ys = listC (arC (cmpTy h)) (xs.drop (k + 1)) (ys.drop (k + 1))) := by show _ = _; rw [HQ.out, HS.out, if_pos h0]
          subst h0
          clear HS
          go_wp2_with fail
          refine HC.out.mono ?_
          rintro e w2 ⟨rfl, hb2⟩
          have HB2 := Hid.mk (HBw.out.trans ((below_more HBx.out hb2).mono HBw.out.size))
          clear hb2 c0 c1 c2 c3 c4 c5 c6 c7 c8 c9 c10 d0' d1' d2' d3' d4' d5' d6' d7' d8' d9' d10'
          go_wp2_with fail
          go_roundw
          case rel => exact ⟨k + 1, hlt, hlt2, by go_num, HB2, HN2⟩
          case measure => simp [intOf]; omega
        · have HN2 : Hid (listC (arC (cmpTy h)) xs ys = c) := by show _ = _; rw [HQ.out, HS.out, if_neg h0]
          have h0' : (c != 0) = true := by simpa using h0
          clear h0 HS
          go_wp2_with fail
          refine HC.out.mono ?_
          rintro e w2 ⟨rfl, hb2⟩
          have HB2 := Hid.mk (HBw.out.trans ((below_more HBx.out hb2).mono HBw.out.size))
          clear hb2 c0 c1 c2 c3 c4 c5 c6 c7 c8 c9 c10 d0' d1' d2' d3' d4' d5' d6' d7' d8' d9' d10'
          go_wp2_with fail
          go_ret
          exact ⟨by rw [HN2.out]; rfl, HB2.out⟩
      · have hl2 : (N : Int) ≤ (k : Int) := by omega
        have HF : Hid (listC (arC (cmpTy h)) xs ys = 1) := by show _ = _; rw [HQ.out]; exact listC_more hka (by rw [HN.out]; omega)
        have HBx := Hid.mk (HBw.out.trans ((below1 wr (.cells #[.bool sa, .bool sb, .bool sc, .bool sd, .slice seo sen sec, .bool sf, .slice sgo sgn sgc, .slice sio sinn sic, .slice sjo sjn sjc, .int .i64 xs[k].min, .int .i64 xs[k].max] 50)).mono HBw.out.size))
        clear hrow hbl ht
        generalize xs[k].min = g0 at *
        generalize xs[k].max = g1 at *
        clear hka
        go_wp2_with fail
        go_ret
        exact ⟨by rw [HF.out]; rfl, HBx.out⟩
    · have hl1 : ¬ (k : Int) < (M : Int) := by omega
      by_cases hlt2 : M < N
      · have hl2 : (M : Int) < (N : Int) := by omega
        have HF : Hid (listC (arC (cmpTy h)) xs ys = -1) := by show _ = _; rw [HQ.out]; exact listC_less (by rw [HM.out]; omega) (by rw [HN.out]; omega)
        go_wp2_with fail
        go_ret
        exact ⟨by rw [HF.out]; rfl, HBw.out⟩
      · have hl2 : ¬ (M : Int) < (N : Int) := by omega
        have HF : Hid (listC (arC (cmpTy h)) xs ys = 0) := by show _ = _; rw [HQ.out]; exact listC_even (by rw [HM.out]; omega) (by rw [HN.out]; omega)
        go_wp2_with fail
        go_ret
        exact ⟨by rw [HF.out]; rfl, HBw.out⟩
end Go.Proofs.Ytdjoelhiahpmlaa
namespace Go.Proofs.Ytdjoelhiahpmlaa
open Go.RowKit Go.Shelf Go.Sort
set_option linter.unusedVariables false
set_option linter.unusedSimpArgs false
attribute [local go_sem] Oper.semAt_some


set_option maxRecDepth 100000 in
set_option maxHeartbeats 6400000 in
theorem w_cfObj (h : Nat) (ih : FcO h) (ao : Option Addr) (M acap : Nat) (xs : List (OB)) (bo : Option Addr) (N bcap : Nat) (ys : List (OB)) (w : World) (ha : ObIn w h ao xs) (hb : ObIn w h bo ys) (hM : xs.length = M) (hN : ys.length = N) (hac : M ≤ acap) (hbc : N ≤ bcap) (hM2 : M ≤ 140737488355328) (hN2 : N ≤ 140737488355328) :
    Calls Try.prog 74 #[.slice ao M acap, .slice bo N bcap, .func (.func 75) #[] #[]] w fun e w' => e = .returned (.int .i64 (listC (obC (cmpTy h)) xs ys)) ∧ Below w.heap.size w w' := by
  have HA := Hid.mk ha
  have HB := Hid.mk hb
  have HM := Hid.mk hM
  have HN := Hid.mk hN
  have HIh := Hid.mk ih
  clear ih
  clear ha hb hM hN
  go_enter Try.func74, Try.ntmps74
  go_wp2_with fail
  go_loopw [13] (fun i wr => ∃ k : Nat, k ≤ M ∧ k ≤ N ∧ i = .int .i64 (k : Int) ∧ Hid (Below w.heap.size w wr) ∧ Hid (listC (obC (cmpTy h)) xs ys = listC (obC (cmpTy h)) (xs.drop k) (ys.drop k))) (fun i _ => M - (intOf i).toNat)
  case atStart => exact ⟨0, Nat.zero_le _, Nat.zero_le _, rfl, Below.refl _ _, rfl⟩
  case round =>
    obtain ⟨k, hk, hk2, rfl, HBw, HQ⟩ := hrel
    by_cases hlt : k < M
    · have hl1 : (k : Int) < (M : Int) := by omega
      have hka : k < xs.length := by rw [HM.out]; exact hlt
      obtain ⟨b, off, hko, hbl, hrow⟩ := (HA.out.keep HBw.out).row (by omega)
      subst hko
      obtain ⟨ko, kc, fo, fc, mo, mc, u0, u1, u2, u3, u4, u5, u6, u7, u8, ⟨c0, c1, c2⟩, ⟨c3, c4, c5, c6, c7, c8, c9, c10, c11⟩, ht⟩ := hrow k hka
      have htr := ht.rest
      obtain ⟨sa, sb, sc, sd, ⟨seo, sen, sec⟩, sf, ⟨sgo, sgn, sgc⟩, ⟨sio, sinn, sic⟩, ⟨sjo, sjn, sjc⟩, eshs⟩ := inT_shape htr
      simp only [Value.agg.injEq, Array.mk.injEq, List.cons.injEq, and_true] at eshs
      obtain ⟨rfl, rfl, rfl, rfl, rfl, rfl, rfl, rfl, rfl⟩ := eshs
      replace c4 : wr.cell? ⟨b, off + k * 12 + 4, none⟩ = _ := c4
      replace c5 : wr.cell? ⟨b, off + k * 12 + 5, none⟩ = _ := c5
      replace c6 : wr.cell? ⟨b, off + k * 12 + 6, none⟩ = _ := c6
      replace c7 : wr.cell? ⟨b, off + k * 12 + 7, none⟩ = _ := c7
      replace c8 : wr.cell? ⟨b, off + k * 12 + 8, none⟩ = _ := c8
      replace c9 : wr.cell? ⟨b, off + k * 12 + 9, none⟩ = _ := c9
      replace c10 : wr.cell? ⟨b, off + k * 12 + 10, none⟩ = _ := c10
      replace c11 : wr.cell? ⟨b, off + k * 12 + 11, none⟩ = _ := c11
      by_cases hlt2 : k < N
      · have hl2 : ¬ (N : Int) ≤ (k : Int) := by omega
        have hl3 : (k : Int) < (N : Int) := by omega
        have hkb : k < ys.length := by rw [HN.out]; exact hlt2
        obtain ⟨b2, off2, hko2, hbl2, hrow2⟩ := (HB.out.keep HBw.out).row (by omega)
        subst hko2
        obtain ⟨lo, lc, go, gc, po, pc, v0, v1, v2, v3, v4, v5, v6, v7, v8, ⟨d0, d1, d2⟩, ⟨d3, d4, d5, d6, d7, d8, d9, d10, d11⟩, hu⟩ := hrow2 k hkb
        have hur := hu.rest
        obtain ⟨ta, tb, tc, td, ⟨teo, ten, tec⟩, tf, ⟨tgo, tgn, tgc⟩, ⟨tio, tinn, tic⟩, ⟨tjo, tjn, tjc⟩, esht⟩ := inT_shape hur
        simp only [Value.agg.injEq, Array.mk.injEq, List.cons.injEq, and_true] at esht
        obtain ⟨rfl, rfl, rfl, rfl, rfl, rfl, rfl, rfl, rfl⟩ := esht
        replace d4 : wr.cell? ⟨b2, off2 + k * 12 + 4, none⟩ = _ := d4
        replace d5 : wr.cell? ⟨b2, off2 + k * 12 + 5, none⟩ = _ := d5
        replace d6 : wr.cell? ⟨b2, off2 + k * 12 + 6, none⟩ = _ := d6
        replace d7 : wr.cell? ⟨b2, off2 + k * 12 + 7, none⟩ = _ := d7
        replace d8 : wr.cell? ⟨b2, off2 + k * 12 + 8, none⟩ = _ := d8
        replace d9 : wr.cell? ⟨b2, off2 + k * 12 + 9, none⟩ = _ := d9
        replace d10 : wr.cell? ⟨b2, off2 + k * 12 + 10, none⟩ = _ := d10
        replace d11 : wr.cell? ⟨b2, off2 + k * 12 + 11, none⟩ = _ := d11
        have HBx := Hid.mk (below2 wr (.cells #[.slice ko xs[k].names.length kc, .slice fo xs[k].fields.length fc, .slice mo xs[k].must.length mc, .bool sa, .bool sb, .bool sc, .bool sd, .slice seo sen sec, .bool sf, .slice sgo sgn sgc, .slice sio sinn sic, .slice sjo sjn sjc] 55) (.cells #[.slice lo ys[k].names.length lc, .slice go ys[k].fields.length gc, .slice po ys[k].must.length pc, .bool ta, .bool tb, .bool tc, .bool td, .slice teo ten tec, .bool tf, .slice tgo tgn tgc, .slice tio tinn tic, .slice tjo tjn tjc] 55))
        have HS := Hid.mk (listC_step (c := (obC (cmpTy h))) hka hkb)
        have HC := Hid.mk (HIh.out xs[k] ys[k] _ _ _ _ _ _ _ _ _ _ _ _ _ _ _ _ _ _ _ _ _ _ _ _ _ _ _ _ _ _ ((wr.alloc (.cells #[.slice ko xs[k].names.length kc, .slice fo xs[k].fields.length fc, .slice mo xs[k].must.length mc, .bool sa, .bool sb, .bool sc, .bool sd, .slice seo sen sec, .bool sf, .slice sgo sgn sgc, .slice sio sinn sic, .slice sjo sjn sjc] 55)).alloc (.cells #[.slice lo ys[k].names.length lc, .slice go ys[k].fields.length gc, .slice po ys[k].must.length pc, .bool ta, .bool tb, .bool tc, .bool td, .slice teo ten tec, .bool tf, .slice tgo tgn tgc, .slice tio tinn tic, .slice tjo tjn tjc] 55)) (ht.keep HBx.out) (hu.keep HBx.out))
        have e0 : ∀ j o, (wr.alloc o).cell? ⟨b2, j, none⟩ = wr.cell? ⟨b2, j, none⟩ := fun j o => (below1 wr o).cell (p := ⟨b2, j, none⟩) hbl2
        have d0' := fun o => (e0 _ o).trans d0
        have d1' := fun o => (e0 _ o).trans d1
        have d2' := fun o => (e0 _ o).trans d2
        have d3' := fun o => (e0 _ o).trans d3
        have d4' := fun o => (e0 _ o).trans d4
        have d5' := fun o => (e0 _ o).trans d5
        have d6' := fun o => (e0 _ o).trans d6
        have d7' := fun o => (e0 _ o).trans d7
        have d8' := fun o => (e0 _ o).trans d8
        have d9' := fun o => (e0 _ o).trans d9
        have d10' := fun o => (e0 _ o).trans d10
        have d11' := fun o => (e0 _ o).trans d11
        generalize (obC (cmpTy h)) xs[k] ys[k] = c at *
        generalize xs[k].names.length = g0 at *
        generalize xs[k].fields.length = g1 at *
        generalize xs[k].must.length = g2 at *
        generalize ys[k].names.length = g3 at *
        generalize ys[k].fields.length = g4 at *
        generalize ys[k].must.length = g5 at *
        clear hrow hrow2 hbl hbl2 hka hkb ht hu htr hur e0 d0 d1 d2 d3 d4 d5 d6 d7 d8 d9 d10 d11
        by_cases h0 : c = 0
        · have HN2 : Hid (listC (obC (cmpTy h)) xs ys = listC (obC (cmpTy h)) (xs.drop (k + 1)) (ys.drop (k + 1))) := by show _ = _; rw [HQ.out, HS.out, if_pos h0]
          subst h0
          clear HS
          go_wp2_with fail
          refine HC.out.mono ?_
          rintro e w2 ⟨rfl, hb2⟩
          have HB2 := Hid.mk (HBw.out.trans ((below_more HBx.out hb2).mono HBw.out.size))
          clear hb2 c0 c1 c2 c3 c4 c5 c6 c7 c8 c9 c10 c11 d0' d1' d2' d3' d4' d5' d6' d7' d8' d9' d10' d11'
          go_wp2_with fail
          go_roundw
          case rel => exact ⟨k + 1, hlt, hlt2, by go_num, HB2, HN2⟩
          case measure => simp [intOf]; omega
        · have HN2 : Hid (listC (obC (cmpTy h)) xs ys = c) := by show _ = _; rw [HQ.out, HS.out, if_neg h0]
          have h0' : (c != 0) = true := by simpa using h0
          clear h0 HS
          go_wp2_with fail
          refine HC.out.mono ?_
          rintro e w2 ⟨rfl, hb2⟩
          have HB2 := Hid.mk (HBw.out.trans ((below_more HBx.out hb2).mono HBw.out.size))
          clear hb2 c0 c1 c2 c3 c4 c5 c6 c7 c8 c9 c10 c11 d0' d1' d2' d3' d4' d5' d6' d7' d8' d9' d10' d11'
          go_wp2_with fail
          go_ret
          exact ⟨by rw [HN2.out]; rfl, HB2.out⟩
      · have hl2 : (N : Int) ≤ (k : Int) := by omega
        have HF : Hid (listC (obC (cmpTy h)) xs ys = 1) := by show _ = _; rw [HQ.out]; exact listC_more hka (by rw [HN.out]; omega)
        have HBx := Hid.mk (HBw.out.trans ((below1 wr (.cells #[.slice ko xs[k].names.length kc, .slice fo xs[k].fields.length fc, .slice mo xs[k].must.length mc, .bool sa, .bool sb, .bool sc, .bool sd, .slice seo sen sec, .bool sf, .slice sgo sgn sgc, .slice sio sinn sic, .slice sjo sjn sjc] 55)).mono HBw.out.size))
        clear hrow hbl ht htr
        generalize xs[k].names.length = g0 at *
        generalize xs[k].fields.length = g1 at *
        generalize xs[k].must.length = g2 at *
        clear hka
        go_wp2_with fail
        go_ret
        exact ⟨by rw [HF.out]; rfl, HBx.out⟩
    · have hl1 : ¬ (k : Int) < (M : Int) := by omega
      by_cases hlt2 : M < N
      · have hl2 : (M : Int) < (N : Int) := by omega
        have HF : Hid (listC (obC (cmpTy h)) xs ys = -1) := by show _ = _; rw [HQ.out]; exact listC_less (by rw [HM.out]; omega) (by rw [HN.out]; omega)
        go_wp2_with fail
        go_ret
        exact ⟨by rw [HF.out]; rfl, HBw.out⟩
      · have hl2 : ¬ (M : Int) < (N : Int) := by omega
        have HF : Hid (listC (obC (cmpTy h)) xs ys = 0) := by show _ = _; rw [HQ.out]; exact listC_even (by rw [HM.out]; omega) (by rw [HN.out]; omega)
        go_wp2_with fail
        go_ret
        exact ⟨by rw [HF.out]; rfl, HBw.out⟩
end Go.Proofs.Ytdjoelhiahpmlaa
namespace Go.Proofs.Ytdjoelhiahpmlaa
open Go.RowKit Go.Shelf Go.Sort
set_option linter.unusedVariables false
set_option linter.unusedSimpArgs false
attribute [local go_sem] Oper.semAt_some

set_option maxRecDepth 100000 in
theorem dec_ix0 (B : Nat) (u : World) : (Instr.index 84 (.agg #[.func (.func 61) #[.pointer (some ⟨B, 0, none⟩)] #[], .func (.func 62) #[.pointer (some ⟨B, 0, none⟩)] #[], .func (.func 63) #[.pointer (some ⟨B, 0, none⟩)] #[], .func (.func 64) #[.pointer (some ⟨B, 0, none⟩)] #[], .func (.func 65) #[.pointer (some ⟨B, 0, none⟩)] #[], .func (.func 66) #[.pointer (some ⟨B, 0, none⟩)] #[]]) (.int .i64 0)).run Try.prog u = .ok (.func (.func 61) #[.pointer (some ⟨B, 0, none⟩)] #[]) u := by kernel_rfl
set_option maxRecDepth 100000 in
theorem dec_ix1 (B : Nat) (u : World) : (Instr.index 84 (.agg #[.func (.func 61) #[.pointer (some ⟨B, 0, none⟩)] #[], .func (.func 62) #[.pointer (some ⟨B, 0, none⟩)] #[], .func (.func 63) #[.pointer (some ⟨B, 0, none⟩)] #[], .func (.func 64) #[.pointer (some ⟨B, 0, none⟩)] #[], .func (.func 65) #[.pointer (some ⟨B, 0, none⟩)] #[], .func (.func 66) #[.pointer (some ⟨B, 0, none⟩)] #[]]) (.int .i64 1)).run Try.prog u = .ok (.func (.func 62) #[.pointer (some ⟨B, 0, none⟩)] #[]) u := by kernel_rfl
set_option maxRecDepth 100000 in
theorem dec_ix2 (B : Nat) (u : World) : (Instr.index 84 (.agg #[.func (.func 61) #[.pointer (some ⟨B, 0, none⟩)] #[], .func (.func 62) #[.pointer (some ⟨B, 0, none⟩)] #[], .func (.func 63) #[.pointer (some ⟨B, 0, none⟩)] #[], .func (.func 64) #[.pointer (some ⟨B, 0, none⟩)] #[], .func (.func 65) #[.pointer (some ⟨B, 0, none⟩)] #[], .func (.func 66) #[.pointer (some ⟨B, 0, none⟩)] #[]]) (.int .i64 2)).run Try.prog u = .ok (.func (.func 63) #[.pointer (some ⟨B, 0, none⟩)] #[]) u := by kernel_rfl
set_option maxRecDepth 100000 in
theorem dec_ix3 (B : Nat) (u : World) : (Instr.index 84 (.agg #[.func (.func 61) #[.pointer (some ⟨B, 0, none⟩)] #[], .func (.func 62) #[.pointer (some ⟨B, 0, none⟩)] #[], .func (.func 63) #[.pointer (some ⟨B, 0, none⟩)] #[], .func (.func 64) #[.pointer (some ⟨B, 0, none⟩)] #[], .func (.func 65) #[.pointer (some ⟨B, 0, none⟩)] #[], .func (.func 66) #[.pointer (some ⟨B, 0, none⟩)] #[]]) (.int .i64 3)).run Try.prog u = .ok (.func (.func 64) #[.pointer (some ⟨B, 0, none⟩)] #[]) u := by kernel_rfl
set_option maxRecDepth 100000 in
theorem dec_ix4 (B : Nat) (u : World) : (Instr.index 84 (.agg #[.func (.func 61) #[.pointer (some ⟨B, 0, none⟩)] #[], .func (.func 62) #[.pointer (some ⟨B, 0, none⟩)] #[], .func (.func 63) #[.pointer (some ⟨B, 0, none⟩)] #[], .func (.func 64) #[.pointer (some ⟨B, 0, none⟩)] #[], .func (.func 65) #[.pointer (some ⟨B, 0, none⟩)] #[], .func (.func 66) #[.pointer (some ⟨B, 0, none⟩)] #[]]) (.int .i64 4)).run Try.prog u = .ok (.func (.func 65) #[.pointer (some ⟨B, 0, none⟩)] #[]) u := by kernel_rfl
set_option maxRecDepth 100000 in
theorem dec_ix5 (B : Nat) (u : World) : (Instr.index 84 (.agg #[.func (.func 61) #[.pointer (some ⟨B, 0, none⟩)] #[], .func (.func 62) #[.pointer (some ⟨B, 0, none⟩)] #[], .func (.func 63) #[.pointer (some ⟨B, 0, none⟩)] #[], .func (.func 64) #[.pointer (some ⟨B, 0, none⟩)] #[], .func (.func 65) #[.pointer (some ⟨B, 0, none⟩)] #[], .func (.func 66) #[.pointer (some ⟨B, 0, none⟩)] #[]]) (.int .i64 5)).run Try.prog u = .ok (.func (.func 66) #[.pointer (some ⟨B, 0, none⟩)] #[]) u := by kernel_rfl
set_option maxRecDepth 100000 in
set_option maxHeartbeats 1600000 in
theorem w_decidersT (B : Nat) (w : World) : Calls Try.prog 60 #[.pointer (some ⟨B, 0, none⟩)] w fun e w' => e = .returned (.agg #[.func (.func 61) #[.pointer (some ⟨B, 0, none⟩)] #[], .func (.func 62) #[.pointer (some ⟨B, 0, none⟩)] #[], .func (.func 63) #[.pointer (some ⟨B, 0, none⟩)] #[], .func (.func 64) #[.pointer (some ⟨B, 0, none⟩)] #[], .func (.func 65) #[.pointer (some ⟨B, 0, none⟩)] #[], .func (.func 66) #[.pointer (some ⟨B, 0, none⟩)] #[]]) ∧ Below w.heap.size w w' := by
  have HB := Hid.mk (below1 w (.cells #[.func (.func 61) #[.pointer (some ⟨B, 0, none⟩)] #[], .func (.func 62) #[.pointer (some ⟨B, 0, none⟩)] #[], .func (.func 63) #[.pointer (some ⟨B, 0, none⟩)] #[], .func (.func 64) #[.pointer (some ⟨B, 0, none⟩)] #[], .func (.func 65) #[.pointer (some ⟨B, 0, none⟩)] #[], .func (.func 66) #[.pointer (some ⟨B, 0, none⟩)] #[]] 84))
  go_enter Try.func60, Try.ntmps60
  go_wp2_with fail
  (try simp only [Exit.inBlock, Exit.then])
  refine bodyPost_ret (v := .agg #[.func (.func 61) #[.pointer (some ⟨B, 0, none⟩)] #[], .func (.func 62) #[.pointer (some ⟨B, 0, none⟩)] #[], .func (.func 63) #[.pointer (some ⟨B, 0, none⟩)] #[], .func (.func 64) #[.pointer (some ⟨B, 0, none⟩)] #[], .func (.func 65) #[.pointer (some ⟨B, 0, none⟩)] #[], .func (.func 66) #[.pointer (some ⟨B, 0, none⟩)] #[]]) (by simp [results, Try.results60, go_sem]) rfl ?_
  exact ⟨rfl, HB.out⟩
/-- what lies while Cmp goes on: the second one's box, the asked one's box -/
structure CBx (w u : World) (b0 b1 b2 b3 : Bool) (no : Option Addr) (nn nc : Nat) (b5 : Bool) (xo : Option Addr) (nx xc : Nat) (ao : Option Addr) (NA ac : Nat) (oo : Option Addr) (NO oc : Nat) (e0 e1 e2 e3 : Bool) (no2 : Option Addr) (nn2 nc2 : Nat) (e5 : Bool) (xo2 : Option Addr) (nx2 xc2 : Nat) (ao2 : Option Addr) (NA2 ac2 : Nat) (oo2 : Option Addr) (NO2 oc2 : Nat) : Prop where
  below : Below w.heap.size w u
  box : C9 u (w.heap.size + 1) 0 (.bool e0) (.bool e1) (.bool e2) (.bool e3) (.slice no2 nn2 nc2) (.bool e5) (.slice xo2 nx2 xc2) (.slice ao2 NA2 ac2) (.slice oo2 NO2 oc2)
  ask : AskBx u (w.heap.size + 1 + 1) b0 b1 b2 b3 no nn nc b5 xo nx xc ao NA ac oo NO oc
theorem CBx.keep {w u u' : World} {b0 b1 b2 b3 : Bool} {no : Option Addr} {nn nc : Nat} {b5 : Bool} {xo : Option Addr} {nx xc : Nat} {ao : Option Addr} {NA ac : Nat} {oo : Option Addr} {NO oc : Nat} {e0 e1 e2 e3 : Bool} {no2 : Option Addr} {nn2 nc2 : Nat} {e5 : Bool} {xo2 : Option Addr} {nx2 xc2 : Nat} {ao2 : Option Addr} {NA2 ac2 : Nat} {oo2 : Option Addr} {NO2 oc2 : Nat} (x : CBx w u b0 b1 b2 b3 no nn nc b5 xo nx xc ao NA ac oo NO oc e0 e1 e2 e3 no2 nn2 nc2 e5 xo2 nx2 xc2 ao2 NA2 ac2 oo2 NO2 oc2) (hb : Below u.heap.size u u') : CBx w u' b0 b1 b2 b3 no nn nc b5 xo nx xc ao NA ac oo NO oc e0 e1 e2 e3 no2 nn2 nc2 e5 xo2 nx2 xc2 ao2 NA2 ac2 oo2 NO2 oc2 :=
  ⟨x.below.trans (hb.mono x.below.size), x.box.keep hb (by have := x.ask.lt; omega), x.ask.keep hb⟩

set_option maxRecDepth 100000 in
set_option maxHeartbeats 8000000 in
theorem cmp_step (b0 b1 b2 b3 : Bool) (no : Option Addr) (nn nc : Nat) (b5 : Bool) (xo : Option Addr) (nx xc : Nat) (ao : Option Addr) (NA ac : Nat) (oo : Option Addr) (NO oc : Nat) (e0 e1 e2 e3 : Bool) (no2 : Option Addr) (nn2 nc2 : Nat) (e5 : Bool) (xo2 : Option Addr) (nx2 xc2 : Nat) (ao2 : Option Addr) (NA2 ac2 : Nat) (oo2 : Option Addr) (NO2 oc2 : Nat) (w : World) (r0 r1 r2 r3 r4 r5 : Int)
    (HR0 : Hid (∀ u B, Below w.heap.size w u → AskBx u B b0 b1 b2 b3 no nn nc b5 xo nx xc ao NA ac oo NO oc → Calls Try.prog 61 #[.pointer (some ⟨B, 0, none⟩), .agg #[.bool e0, .bool e1, .bool e2, .bool e3, .slice no2 nn2 nc2, .bool e5, .slice xo2 nx2 xc2, .slice ao2 NA2 ac2, .slice oo2 NO2 oc2]] u fun e w' => e = .returned (.int .i64 r0) ∧ Below u.heap.size u w'))
    (HR1 : Hid (∀ u B, Below w.heap.size w u → AskBx u B b0 b1 b2 b3 no nn nc b5 xo nx xc ao NA ac oo NO oc → Calls Try.prog 62 #[.pointer (some ⟨B, 0, none⟩), .agg #[.bool e0, .bool e1, .bool e2, .bool e3, .slice no2 nn2 nc2, .bool e5, .slice xo2 nx2 xc2, .slice ao2 NA2 ac2, .slice oo2 NO2 oc2]] u fun e w' => e = .returned (.int .i64 r1) ∧ Below u.heap.size u w'))
    (HR2 : Hid (∀ u B, Below w.heap.size w u → AskBx u B b0 b1 b2 b3 no nn nc b5 xo nx xc ao NA ac oo NO oc → Calls Try.prog 63 #[.pointer (some ⟨B, 0, none⟩), .agg #[.bool e0, .bool e1, .bool e2, .bool e3, .slice no2 nn2 nc2, .bool e5, .slice xo2 nx2 xc2, .slice ao2 NA2 ac2, .slice oo2 NO2 oc2]] u fun e w' => e = .returned (.int .i64 r2) ∧ Below u.heap.size u w'))
    (HR3 : Hid (∀ u B, Below w.heap.size w u → AskBx u B b0 b1 b2 b3 no nn nc b5 xo nx xc ao NA ac oo NO oc → Calls Try.prog 64 #[.pointer (some ⟨B, 0, none⟩), .agg #[.bool e0, .bool e1, .bool e2, .bool e3, .slice no2 nn2 nc2, .bool e5, .slice xo2 nx2 xc2, .slice ao2 NA2 ac2, .slice oo2 NO2 oc2]] u fun e w' => e = .returned (.int .i64 r3) ∧ Below u.heap.size u w'))
    (HR4 : Hid (∀ u B, Below w.heap.size w u → AskBx u B b0 b1 b2 b3 no nn nc b5 xo nx xc ao NA ac oo NO oc → Calls Try.prog 65 #[.pointer (some ⟨B, 0, none⟩), .agg #[.bool e0, .bool e1, .bool e2, .bool e3, .slice no2 nn2 nc2, .bool e5, .slice xo2 nx2 xc2, .slice ao2 NA2 ac2, .slice oo2 NO2 oc2]] u fun e w' => e = .returned (.int .i64 r4) ∧ Below u.heap.size u w'))
    (HR5 : Hid (∀ u B, Below w.heap.size w u → AskBx u B b0 b1 b2 b3 no nn nc b5 xo nx xc ao NA ac oo NO oc → Calls Try.prog 66 #[.pointer (some ⟨B, 0, none⟩), .agg #[.bool e0, .bool e1, .bool e2, .bool e3, .slice no2 nn2 nc2, .bool e5, .slice xo2 nx2 xc2, .slice ao2 NA2 ac2, .slice oo2 NO2 oc2]] u fun e w' => e = .returned (.int .i64 r5) ∧ Below u.heap.size u w')) :
    Calls Try.prog 59 #[.agg #[.bool b0, .bool b1, .bool b2, .bool b3, .slice no nn nc, .bool b5, .slice xo nx xc, .slice ao NA ac, .slice oo NO oc], .agg #[.bool e0, .bool e1, .bool e2, .bool e3, .slice no2 nn2 nc2, .bool e5, .slice xo2 nx2 xc2, .slice ao2 NA2 ac2, .slice oo2 NO2 oc2]] w fun e w' => e = .returned (.int .i64 (Pl.orI r0 (Pl.orI r1 (Pl.orI r2 (Pl.orI r3 (Pl.orI r4 r5)))))) ∧ Below w.heap.size w w' := by
  obtain ⟨R, hR⟩ : ∃ R, Pl.orI r0 (Pl.orI r1 (Pl.orI r2 (Pl.orI r3 (Pl.orI r4 r5)))) = R := ⟨_, rfl⟩
  have HQ0 := Hid.mk hR.symm
  rw [hR]
  clear hR
  obtain ⟨W0, hW0⟩ : ∃ W0, (((w.alloc (.cells #[.bool b0, .bool b1, .bool b2, .bool b3, .slice no nn nc, .bool b5, .slice xo nx xc, .slice ao NA ac, .slice oo NO oc] 33)).alloc (.cells #[.bool e0, .bool e1, .bool e2, .bool e3, .slice no2 nn2 nc2, .bool e5, .slice xo2 nx2 xc2, .slice ao2 NA2 ac2, .slice oo2 NO2 oc2] 33)).alloc (.cells #[.bool b0, .bool b1, .bool b2, .bool b3, .slice no nn nc, .bool b5, .slice xo nx xc, .slice ao NA ac, .slice oo NO oc] 82)) = W0 := ⟨_, rfl⟩
  have HF0 : Hid (CBx w W0 b0 b1 b2 b3 no nn nc b5 xo nx xc ao NA ac oo NO oc e0 e1 e2 e3 no2 nn2 nc2 e5 xo2 nx2 xc2 ao2 NA2 ac2 oo2 NO2 oc2) := by
    rw [← hW0]
    refine ⟨(((Below.refl _ w).alloc (Nat.le_refl _) _).alloc (by simp) _).alloc (by simp; omega) _, ⟨by simp [go_sem], by simp [go_sem], by simp [go_sem], by simp [go_sem], by simp [go_sem], by simp [go_sem], by simp [go_sem], by simp [go_sem], by simp [go_sem]⟩, ⟨⟨by simp [go_sem], by simp [go_sem], by simp [go_sem], by simp [go_sem], by simp [go_sem], by simp [go_sem], by simp [go_sem], by simp [go_sem], by simp [go_sem]⟩, by simp⟩⟩
  go_enter Try.func59, Try.ntmps59
  go_wp2_with fail
  refine (w_decidersT _ _).mono ?_
  rintro e w0 ⟨rfl, hq⟩
  have HF := Hid.mk (HF0.out.keep hq)
  clear hq hW0 HF0
  go_wp2_with fail
  refine wp_loop_rounds 7 ?_
  rw [rounds_succ]
  have ix := dec_ix0 (w.heap.size + 1 + 1)
  obtain ⟨q0, q1, q2, q3, q4, q5, q6, q7, q8⟩ := HF.out.box
  simp only [Nat.zero_add] at q1 q2 q3 q4 q5 q6 q7 q8
  go_wp2_with fail
  refine (HR0.out _ _ HF.out.below HF.out.ask).mono ?_
  rintro e w1 ⟨rfl, hq⟩
  have HF' := Hid.mk (HF.out.keep hq)
  clear hq HF ix q0 q1 q2 q3 q4 q5 q6 q7 q8 HR0
  have HF := HF'
  clear HF'
  by_cases h0 : r0 = 0
  · subst h0
    have HQ1 : Hid (R = (Pl.orI r1 (Pl.orI r2 (Pl.orI r3 (Pl.orI r4 r5))))) := HQ0.out
    clear HQ0
    go_wp2_with fail
    rw [rounds_succ]
    have ix := dec_ix1 (w.heap.size + 1 + 1)
    obtain ⟨q0, q1, q2, q3, q4, q5, q6, q7, q8⟩ := HF.out.box
    simp only [Nat.zero_add] at q1 q2 q3 q4 q5 q6 q7 q8
    go_wp2_with fail
    refine (HR1.out _ _ HF.out.below HF.out.ask).mono ?_
    rintro e w2 ⟨rfl, hq⟩
    have HF' := Hid.mk (HF.out.keep hq)
    clear hq HF ix q0 q1 q2 q3 q4 q5 q6 q7 q8 HR1
    have HF := HF'
    clear HF'
    by_cases h1 : r1 = 0
    · subst h1
      have HQ2 : Hid (R = (Pl.orI r2 (Pl.orI r3 (Pl.orI r4 r5)))) := HQ1.out
      clear HQ1
      go_wp2_with fail
      rw [rounds_succ]
      have ix := dec_ix2 (w.heap.size + 1 + 1)
      obtain ⟨q0, q1, q2, q3, q4, q5, q6, q7, q8⟩ := HF.out.box
      simp only [Nat.zero_add] at q1 q2 q3 q4 q5 q6 q7 q8
      go_wp2_with fail
      refine (HR2.out _ _ HF.out.below HF.out.ask).mono ?_
      rintro e w3 ⟨rfl, hq⟩
      have HF' := Hid.mk (HF.out.keep hq)
      clear hq HF ix q0 q1 q2 q3 q4 q5 q6 q7 q8 HR2
      have HF := HF'
      clear HF'
      by_cases h2 : r2 = 0
      · subst h2
        have HQ3 : Hid (R = (Pl.orI r3 (Pl.orI r4 r5))) := HQ2.out
        clear HQ2
        go_wp2_with fail
        rw [rounds_succ]
        have ix := dec_ix3 (w.heap.size + 1 + 1)
        obtain ⟨q0, q1, q2, q3, q4, q5, q6, q7, q8⟩ := HF.out.box
        simp only [Nat.zero_add] at q1 q2 q3 q4 q5 q6 q7 q8
        go_wp2_with fail
        refine (HR3.out _ _ HF.out.below HF.out.ask).mono ?_
        rintro e w4 ⟨rfl, hq⟩
        have HF' := Hid.mk (HF.out.keep hq)
        clear hq HF ix q0 q1 q2 q3 q4 q5 q6 q7 q8 HR3
        have HF := HF'
        clear HF'
        by_cases h3 : r3 = 0
        · subst h3
          have HQ4 : Hid (R = (Pl.orI r4 r5)) := HQ3.out
          clear HQ3
          go_wp2_with fail
          rw [rounds_succ]
          have ix := dec_ix4 (w.heap.size + 1 + 1)
          obtain ⟨q0, q1, q2, q3, q4, q5, q6, q7, q8⟩ := HF.out.box
          simp only [Nat.zero_add] at q1 q2 q3 q4 q5 q6 q7 q8
          go_wp2_with fail
          refine (HR4.out _ _ HF.out.below HF.out.ask).mono ?_
          rintro e w5 ⟨rfl, hq⟩
          have HF' := Hid.mk (HF.out.keep hq)
          clear hq HF ix q0 q1 q2 q3 q4 q5 q6 q7 q8 HR4
          have HF := HF'
          clear HF'
          by_cases h4 : r4 = 0
          · subst h4
            have HQ5 : Hid (R = r5) := HQ4.out
            clear HQ4
            go_wp2_with fail
            rw [rounds_succ]
            have ix := dec_ix5 (w.heap.size + 1 + 1)
            obtain ⟨q0, q1, q2, q3, q4, q5, q6, q7, q8⟩ := HF.out.box
            simp only [Nat.zero_add] at q1 q2 q3 q4 q5 q6 q7 q8
            go_wp2_with fail
            refine (HR5.out _ _ HF.out.below HF.out.ask).mono ?_
            rintro e w6 ⟨rfl, hq⟩
            have HF' := Hid.mk (HF.out.keep hq)
            clear hq HF ix q0 q1 q2 q3 q4 q5 q6 q7 q8 HR5
            have HF := HF'
            clear HF'
            by_cases h5 : r5 = 0
            · subst h5
              have HQ6 : Hid (R = 0) := HQ5.out
              clear HQ5
              go_wp2_with fail
              rw [rounds_succ]
              go_wp2_with fail
              go_ret
              exact ⟨by rw [HQ6.out]; rfl, HF.out.below⟩
            · have HN : Hid (R = r5) := by show _ = _; rw [HQ5.out]
              have h5' : (r5 != 0) = true := by simpa using h5
              clear h5 HQ5
              go_wp2_with fail
              go_ret
              exact ⟨by rw [HN.out]; rfl, HF.out.below⟩
          · have HN : Hid (R = r4) := by show _ = _; rw [HQ4.out]; unfold Pl.orI; rw [if_neg h4]
            have h4' : (r4 != 0) = true := by simpa using h4
            clear h4 HQ4
            go_wp2_with fail
            go_ret
            exact ⟨by rw [HN.out]; rfl, HF.out.below⟩
        · have HN : Hid (R = r3) := by show _ = _; rw [HQ3.out]; unfold Pl.orI; rw [if_neg h3]
          have h3' : (r3 != 0) = true := by simpa using h3
          clear h3 HQ3
          go_wp2_with fail
          go_ret
          exact ⟨by rw [HN.out]; rfl, HF.out.below⟩
      · have HN : Hid (R = r2) := by show _ = _; rw [HQ2.out]; unfold Pl.orI; rw [if_neg h2]
        have h2' : (r2 != 0) = true := by simpa using h2
        clear h2 HQ2
        go_wp2_with fail
        go_ret
        exact ⟨by rw [HN.out]; rfl, HF.out.below⟩
    · have HN : Hid (R = r1) := by show _ = _; rw [HQ1.out]; unfold Pl.orI; rw [if_neg h1]
      have h1' : (r1 != 0) = true := by simpa using h1
      clear h1 HQ1
      go_wp2_with fail
      go_ret
      exact ⟨by rw [HN.out]; rfl, HF.out.below⟩
  · have HN : Hid (R = r0) := by show _ = _; rw [HQ0.out]; unfold Pl.orI; rw [if_neg h0]
    have h0' : (r0 != 0) = true := by simpa using h0
    clear h0 HQ0
    go_wp2_with fail
    go_ret
    exact ⟨by rw [HN.out]; rfl, HF.out.below⟩

/-- THE PROGRAM'S CMP, of every two types -/
theorem w_sCmp : ∀ h, FcT h := by
  intro h
  induction h with
  | zero => intro A B va vb w hA hB; exact hA.elim
  | succ h ih =>
    intro A B va vb w hA hB
    obtain ⟨no, nc, xo, xc, ao, ac, oo, oc, rfl, ⟨a1, a2, a3, a4⟩, ⟨a5, a6, a7, a8⟩, z1, z2, hs, hk, ha, ho⟩ := hA
    obtain ⟨no2, nc2, xo2, xc2, ao2, ac2, oo2, oc2, rfl, ⟨b1, b2, b3, b4⟩, ⟨b5, b6, b7, b8⟩, y1, y2, hs2, hk2, ha2, ho2⟩ := hB
    have hAr : ArIn w h ao A.arrs := ⟨ha⟩
    have hAr2 : ArIn w h ao2 B.arrs := ⟨ha2⟩
    have mk : ∀ (oo : Option Addr) (T : TT), (0 < T.objs.length → ∃ b off, oo = some ⟨b, off, none⟩ ∧ b < w.heap.size ∧ ∀ i, (hi : i < T.objs.length) → ∃ (ko : Option Addr) (kc : Nat) (fo : Option Addr) (fc : Nat) (mo : Option Addr) (mc : Nat) (c0 c1 c2 c3 c4 c5 c6 c7 c8 : Value),
        (w.cell? ⟨b, off + i * 12, none⟩ = some (.slice ko T.objs[i].names.length kc) ∧ w.cell? ⟨b, off + i * 12 + 1, none⟩ = some (.slice fo T.objs[i].fields.length fc) ∧ w.cell? ⟨b, off + i * 12 + 2, none⟩ = some (.slice mo T.objs[i].must.length mc)) ∧
        C9 w b (off + i * 12 + 3) c0 c1 c2 c3 c4 c5 c6 c7 c8 ∧
        (T.objs[i].names.length ≤ kc ∧ T.objs[i].fields.length ≤ fc ∧ T.objs[i].must.length ≤ mc) ∧
        (T.objs[i].names.length ≤ 140737488355328 ∧ T.objs[i].fields.length ≤ 140737488355328 ∧ T.objs[i].must.length ≤ 140737488355328 ∧ ∀ k ∈ T.objs[i].names, k.size ≤ 140737488355328) ∧
        KIn w ko T.objs[i].names ∧ BoIn w mo T.objs[i].must ∧
        (0 < T.objs[i].fields.length → ∃ b2 off2, fo = some ⟨b2, off2, none⟩ ∧ b2 < w.heap.size ∧ ∀ j, (hj : j < T.objs[i].fields.length) → ∃ d0 d1 d2 d3 d4 d5 d6 d7 d8 : Value,
          C9 w b2 (off2 + j * 9) d0 d1 d2 d3 d4 d5 d6 d7 d8 ∧ InT w h T.objs[i].fields[j] (.agg #[d0, d1, d2, d3, d4, d5, d6, d7, d8])) ∧
        InT w h T.objs[i].rest (.agg #[c0, c1, c2, c3, c4, c5, c6, c7, c8])) → ObIn w h oo T.objs := fun oo T ho => ⟨fun h0 => by
      obtain ⟨b, off, e, hl, hc⟩ := ho h0
      refine ⟨b, off, e, hl, fun i hi => ?_⟩
      obtain ⟨ko, kc, fo, fc, mo, mc, c0, c1, c2, c3, c4, c5, c6, c7, c8, g, h1, h2, h3, h4, h5, h6, h7⟩ := hc i hi
      exact ⟨ko, kc, fo, fc, mo, mc, c0, c1, c2, c3, c4, c5, c6, c7, c8, g, h1, ⟨h2, h3, h4, h5, h6, h7⟩⟩⟩
    have hOb := mk oo A ho
    have hOb2 := mk oo2 B ho2
    exact cmp_step A.all A.nul A.fls A.tru no A.nums.length nc A.any xo A.texts.length xc ao A.arrs.length ac oo A.objs.length oc B.all B.nul B.fls B.tru no2 B.nums.length nc2 B.any xo2 B.texts.length xc2 ao2 B.arrs.length ac2 oo2 B.objs.length oc2 w
      (flC A B) (listC spC A.nums B.nums) (setC A.any B.any) (listC keyC A.texts B.texts) (listC (arC (cmpTy h)) A.arrs B.arrs) (listC (obC (cmpTy h)) A.objs B.objs)
      (Hid.mk fun u Bk hu hx => w_byFlags _ _ _ _ _ _ _ _ _ _ _ _ _ _ _ _ _ _ _ _ _ _ _ _ _ _ _ _ _ _ _ _ _ _ u Bk hx)
      (Hid.mk fun u Bk hu hx => w_byNums _ _ _ _ _ _ _ _ _ _ _ _ _ _ _ _ _ _ _ _ _ _ _ _ _ _ _ _ _ _ _ _ _ _ u Bk hx _ (Hid.mk fun x hxx => w_cfSpan no _ nc A.nums no2 _ nc2 B.nums x (hs.keep (hu.trans (hxx.mono hu.size))) (hs2.keep (hu.trans (hxx.mono hu.size))) rfl rfl a1 b1 a5 b5 z1 y1))
      (Hid.mk fun u Bk hu hx => w_byAnyText _ _ _ _ _ _ _ _ _ _ _ _ _ _ _ _ _ _ _ _ _ _ _ _ _ _ _ _ _ _ _ _ _ _ u Bk hx)
      (Hid.mk fun u Bk hu hx => w_byTexts _ _ _ _ _ _ _ _ _ _ _ _ _ _ _ _ _ _ _ _ _ _ _ _ _ _ _ _ _ _ _ _ _ _ u Bk hx _ (Hid.mk fun x hxx => (w_slCompare xo _ xc A.texts xo2 _ xc2 B.texts x (hk.keep (hu.trans (hxx.mono hu.size))) (hk2.keep (hu.trans (hxx.mono hu.size))) rfl rfl a2 b2 a6 b6).mono fun e w' k => ⟨k.1, by rw [k.2]; exact Below.refl _ _⟩))
      (Hid.mk fun u Bk hu hx => w_byArrays _ _ _ _ _ _ _ _ _ _ _ _ _ _ _ _ _ _ _ _ _ _ _ _ _ _ _ _ _ _ _ _ _ _ u Bk hx _ (Hid.mk fun x hxx => w_cfArr h (w_byArr h ih) ao _ ac A.arrs ao2 _ ac2 B.arrs x (hAr.keep (hu.trans (hxx.mono hu.size))) (hAr2.keep (hu.trans (hxx.mono hu.size))) rfl rfl a3 b3 a7 b7))
      (Hid.mk fun u Bk hu hx => w_byObjects _ _ _ _ _ _ _ _ _ _ _ _ _ _ _ _ _ _ _ _ _ _ _ _ _ _ _ _ _ _ _ _ _ _ u Bk hx _ (Hid.mk fun x hxx => w_cfObj h (w_byObj h ih) oo _ oc A.objs oo2 _ oc2 B.objs x (hOb.keep (hu.trans (hxx.mono hu.size))) (hOb2.keep (hu.trans (hxx.mono hu.size))) rfl rfl a4 b4 a8 b8))
end Go.Proofs.Ytdjoelhiahpmlaa
