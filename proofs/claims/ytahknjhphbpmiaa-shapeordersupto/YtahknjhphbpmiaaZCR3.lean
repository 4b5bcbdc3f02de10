import Derived.Test.YtahknjhphbpmiaaZCR2
namespace Go.Proofs.Ytahknjhphbpmiaa
open Go.RowKit Go.Shelf Go.Sort
set_option linter.unusedVariables false
set_option linter.unusedSimpArgs false
attribute [local go_sem] Oper.semAt_some


set_option maxRecDepth 100000 in
set_option maxHeartbeats 12800000 in
theorem w_rObj (h : Nat) (ih : RcT h) (a b : OB) (ko fo mo lo go po : Option Addr) (kc fc mc lc gc pc : Nat) (c0 c1 c2 c3 c4 c5 c6 c7 c8 d0 d1 d2 d3 d4 d5 d6 d7 d8 : Value) (w : World) (ha : InO w h a ko kc fo fc mo mc c0 c1 c2 c3 c4 c5 c6 c7 c8) (hb : InO w h b lo lc go gc po pc d0 d1 d2 d3 d4 d5 d6 d7 d8)
    (ga : (a.names.length = a.fields.length ∧ a.names.length = a.must.length) ∧ (∀ f ∈ a.fields, goodT h f) ∧ goodT h a.rest) (gb : (b.names.length = b.fields.length ∧ b.names.length = b.must.length) ∧ (∀ f ∈ b.fields, goodT h f) ∧ goodT h b.rest) :
    Calls Try.prog 42 #[.agg #[.slice ko a.names.length kc, .slice fo a.fields.length fc, .slice mo a.must.length mc, c0, c1, c2, c3, c4, c5, c6, c7, c8], .agg #[.slice lo b.names.length lc, .slice go b.fields.length gc, .slice po b.must.length pc, d0, d1, d2, d3, d4, d5, d6, d7, d8]] w fun e w' => e = .returned (.int .i64 (obC (cmpTy h) a b)) ∧ Below w.heap.size w w' := by
  have HR1 := Hid.mk (fun u (hu : Below w.heap.size w u) => ih a.rest b.rest _ _ u ga.2.2 gb.2.2 (ha.rest.keep hu) (hb.rest.keep hu))
  have HN1 := Hid.mk (fun u (hu : Below w.heap.size w u) => w_rTextsL ko _ kc a.names lo _ lc b.names u (ha.nm.keep hu) (hb.nm.keep hu) rfl rfl ha.caps.1 hb.caps.1 ha.lens.1 hb.lens.1)
  have HMA := Hid.mk (fun u (hu : Below w.heap.size w u) => ha.ms.keep hu)
  have HMB := Hid.mk (fun u (hu : Below w.heap.size w u) => hb.ms.keep hu)
  have HFA := Hid.mk (fun u (hu : Below w.heap.size w u) => (⟨(ha.keep hu).fd⟩ : TyIn u h fo a.fields))
  have HFB := Hid.mk (fun u (hu : Below w.heap.size w u) => (⟨(hb.keep hu).fd⟩ : TyIn u h go b.fields))
  have HIF := Hid.mk (fun (i : Nat) (h1 : i < a.fields.length) (h2 : i < b.fields.length) (va vb : Value) (u : World) (k1 : InT u h a.fields[i] va) (k2 : InT u h b.fields[i] vb) => ih a.fields[i] b.fields[i] va vb u (ga.2.1 _ (List.getElem_mem h1)) (gb.2.1 _ (List.getElem_mem h2)) k1 k2)
  have har := ha.rest
  have hbr := hb.rest
  have hl1 := ha.lens.1
  have hl2 := hb.lens.1
  obtain ⟨sa, sb, sc, sd, ⟨seo, sen, sec⟩, sf, ⟨sgo, sgn, sgc⟩, ⟨sio, sinn, sic⟩, ⟨sjo, sjn, sjc⟩, eshs⟩ := inT_shape har
  simp only [Value.agg.injEq, Array.mk.injEq, List.cons.injEq, and_true] at eshs
  obtain ⟨rfl, rfl, rfl, rfl, rfl, rfl, rfl, rfl, rfl⟩ := eshs
  obtain ⟨ta, tb, tc, td, ⟨teo, ten, tec⟩, tf, ⟨tgo, tgn, tgc⟩, ⟨tio, tinn, tic⟩, ⟨tjo, tjn, tjc⟩, esht⟩ := inT_shape hbr
  simp only [Value.agg.injEq, Array.mk.injEq, List.cons.injEq, and_true] at esht
  obtain ⟨rfl, rfl, rfl, rfl, rfl, rfl, rfl, rfl, rfl⟩ := esht
  have HG : Hid (obC (cmpTy h) a b = Pl.orI (Pl.orI (listC keyC a.names b.names) (listC setC a.must b.must)) (Pl.orI (listC (cmpTy h) a.fields b.fields) (cmpTy h a.rest b.rest))) := rfl
  have HEQ : Hid (listC keyC a.names b.names = 0 → a.names.length = b.names.length) := fun e => by rw [(listC_ord keyC_ord).zr _ _ (fun _ _ => trivial) (fun _ _ => trivial) e]
  obtain ⟨R, hR⟩ : ∃ R, obC (cmpTy h) a b = R := ⟨_, rfl⟩
  rw [hR] at HG ⊢
  obtain ⟨xs, hxs⟩ : ∃ xs, a.must = xs := ⟨_, rfl⟩
  obtain ⟨ys, hys⟩ : ∃ ys, b.must = ys := ⟨_, rfl⟩
  obtain ⟨fs, hfs⟩ : ∃ fs, a.fields = fs := ⟨_, rfl⟩
  obtain ⟨gs, hgs⟩ : ∃ gs, b.fields = gs := ⟨_, rfl⟩
  have hp1 := ga.1.1
  have hp2 := ga.1.2
  have hp3 := gb.1.1
  have hp4 := gb.1.2
  rw [← hp1, ← hp2, ← hp3, ← hp4]
  simp only [hxs, hys, hfs, hgs] at *
  generalize cmpTy h a.rest b.rest = z at HR1 HG
  generalize listC keyC a.names b.names = x at HN1 HG HEQ
  obtain ⟨K1, hK1⟩ : ∃ K, a.names.length = K := ⟨_, rfl⟩
  obtain ⟨K2, hK2⟩ : ∃ K, b.names.length = K := ⟨_, rfl⟩
  rw [hK1] at HN1 HEQ hp1 hp2 hl1 ⊢
  rw [hK2] at HN1 HEQ hp3 hp4 hl2 ⊢
  have HL1 := Hid.mk hp2
  have HL2 := Hid.mk hp4
  have HL3 := Hid.mk hp1
  have HL4 := Hid.mk hp3
  clear ha hb har hbr hR ih ga gb hxs hys hfs hgs hp1 hp2 hp3 hp4 hK1 hK2
  have HX := Hid.mk (bx2_new w #[.slice ko K1 kc, .slice fo K1 fc, .slice mo K1 mc, .bool sa, .bool sb, .bool sc, .bool sd, .slice seo sen sec, .bool sf, .slice sgo sgn sgc, .slice sio sinn sic, .slice sjo sjn sjc] #[.slice lo K2 lc, .slice go K2 gc, .slice po K2 pc, .bool ta, .bool tb, .bool tc, .bool td, .slice teo ten tec, .bool tf, .slice tgo tgn tgc, .slice tio tinn tic, .slice tjo tjn tjc] 67)
  obtain ⟨W0, hW0⟩ : ∃ W0, (w.alloc (.cells #[.slice ko K1 kc, .slice fo K1 fc, .slice mo K1 mc, .bool sa, .bool sb, .bool sc, .bool sd, .slice seo sen sec, .bool sf, .slice sgo sgn sgc, .slice sio sinn sic, .slice sjo sjn sjc] 67)).alloc (.cells #[.slice lo K2 lc, .slice go K2 gc, .slice po K2 pc, .bool ta, .bool tb, .bool tc, .bool td, .slice teo ten tec, .bool tf, .slice tgo tgn tgc, .slice tio tinn tic, .slice tjo tjn tjc] 67) = W0 := ⟨_, rfl⟩
  rw [hW0] at HX
  have p0 : W0.cell? ⟨w.heap.size, 0, none⟩ = some (.slice ko K1 kc) := HX.out.one 0
  have q0 : W0.cell? ⟨w.heap.size + 1, 0, none⟩ = some (.slice lo K2 lc) := HX.out.two 0
  go_enter Try.func42, Try.ntmps42
  go_wp2_with fail
  refine (HN1.out _ HX.out.below).mono ?_
  rintro e w1 ⟨rfl, hq⟩
  have HY := Hid.mk (HX.out.keep hq)
  clear hq hW0 HX p0 q0 HN1
  by_cases hx : x = 0
  · subst hx
    obtain rfl := HEQ.out rfl
    have HG2 : Hid (R = Pl.orI (listC setC xs ys) (Pl.orI (listC (cmpTy h) fs gs) z)) := HG.out
    clear HG HEQ
    go_wp2_with fail
    go_loopw [5, 6] (fun c i wr => ∃ (k : Nat) (cv : Int), k ≤ K1 ∧ c = .int .i64 cv ∧ i = .int .i64 (k : Int) ∧ Hid (Bx2 w wr #[.slice ko K1 kc, .slice fo K1 fc, .slice mo K1 mc, .bool sa, .bool sb, .bool sc, .bool sd, .slice seo sen sec, .bool sf, .slice sgo sgn sgc, .slice sio sinn sic, .slice sjo sjn sjc] #[.slice lo K1 lc, .slice go K1 gc, .slice po K1 pc, .bool ta, .bool tb, .bool tc, .bool td, .slice teo ten tec, .bool tf, .slice tgo tgn tgc, .slice tio tinn tic, .slice tjo tjn tjc]) ∧ Hid ((cv = 0 ∧ listC setC xs ys = listC setC (xs.drop k) (ys.drop k)) ∨ (cv ≠ 0 ∧ listC setC xs ys = cv))) (fun _ i _ => K1 - (intOf i).toNat)
    case atStart => exact ⟨0, 0, Nat.zero_le _, rfl, rfl, HY, .inl ⟨rfl, rfl⟩⟩
    case round =>
      obtain ⟨k, cv, hk, rfl, rfl, HX, HQ⟩ := hrel
      have p2 : wr.cell? ⟨w.heap.size, 2, none⟩ = some (.slice mo K1 mc) := HX.out.one 2
      have q2 : wr.cell? ⟨w.heap.size + 1, 2, none⟩ = some (.slice po K1 pc) := HX.out.two 2
      by_cases hc : cv = 0
      · subst hc
        have HQ' : Hid (listC setC xs ys = listC setC (xs.drop k) (ys.drop k)) := by
          rcases HQ.out with hh | hh
          · exact hh.2
          · exact absurd rfl hh.1
        clear HQ
        by_cases hlt : k < K1
        · have g1 : (k : Int) < (K1 : Int) := by omega
          have g0 : (0 : Int) ≤ (k : Int) := by omega
          have hka : k < xs.length := by rw [← HL1.out]; exact hlt
          have hkb : k < ys.length := by rw [← HL2.out]; exact hlt
          obtain ⟨b1, off1, hq1, hbl1, hrow1⟩ := (HMA.out wr HX.out.below).row (by omega)
          subst hq1
          obtain ⟨b2, off2, hq2, hbl2, hrow2⟩ := (HMB.out wr HX.out.below).row (by omega)
          subst hq2
          have x0 := hrow1 k hka
          have y0 := hrow2 k hkb
          have HS := Hid.mk (listC_step (c := setC) hka hkb)
          have HC := Hid.mk (fun (d : Nat) (os : Array Obj) => (w_rTruth xs[k] ys[k] (grow (redrawn wr d) os)).mono (fun e w' kq => (⟨kq.1, by rw [kq.2]; exact Below.refl _ _⟩ : e = .returned (.int .i64 (setC xs[k] ys[k])) ∧ Below (grow (redrawn wr d) os).heap.size (grow (redrawn wr d) os) w')))
          generalize setC xs[k] ys[k] = c at HC HS
          generalize xs[k] = e1 at *
          generalize ys[k] = e2 at *
          have HN2 : Hid ((c = 0 ∧ listC setC xs ys = listC setC (xs.drop (k + 1)) (ys.drop (k + 1))) ∨ (c ≠ 0 ∧ listC setC xs ys = c)) := by
            by_cases h0 : c = 0
            · exact .inl ⟨h0, by rw [HQ'.out, HS.out, if_pos h0]⟩
            · exact .inr ⟨h0, by rw [HQ'.out, HS.out, if_neg h0]⟩
          clear hrow1 hrow2 hka hkb HS HQ'
          have Ax0 := fun d os => cell_regrown x0 d os
          have Ay0 := fun d os => cell_regrown y0 d os
          have Ap2 := fun d os => cell_regrown p2 d os
          have Aq2 := fun d os => cell_regrown q2 d os
          go_wp2_with fail
          refine wp_region_quiet_below (by kernel_rfl) (by kernel_rfl) ?_
          repeat (go_big_quiet_step (exact Calls.regrown_of (HC.out _ _)))
          refine wpQuiet_nil ?_
          intro w9 hw'
          have hb9 : Below wr.heap.size wr w9 := by
            obtain ⟨⟨dq, osq⟩, rfl⟩ := hw'
            exact below_regrown wr dq osq
          have HX9 := Hid.mk (HX.out.keep hb9)
          clear hw' hb9 Ax0 Ay0 x0 y0 p2 q2 Ap2 Aq2
          go_wp2_with fail
          go_roundw
          case rel => exact ⟨k + 1, c, hlt, rfl, by go_num, HX9, HN2⟩
          case measure => simp [intOf]; omega
        · have g1 : ¬ (k : Int) < (K1 : Int) := by omega
          have hm0 : listC setC xs ys = 0 := by rw [HQ'.out]; exact listC_even (by have := HL1.out; omega) (by have := HL2.out; omega)
          have HG3 : Hid (R = Pl.orI (listC (cmpTy h) fs gs) z) := by show _ = _; rw [HG2.out, hm0]; rfl
          clear HG2 hm0 HQ'
          go_wp2_with fail
          go_loopw [5, 7] (fun c i wr => ∃ (k : Nat) (cv : Int), k ≤ K1 ∧ c = .int .i64 cv ∧ i = .int .i64 (k : Int) ∧ Hid (Bx2 w wr #[.slice ko K1 kc, .slice fo K1 fc, .slice mo K1 mc, .bool sa, .bool sb, .bool sc, .bool sd, .slice seo sen sec, .bool sf, .slice sgo sgn sgc, .slice sio sinn sic, .slice sjo sjn sjc] #[.slice lo K1 lc, .slice go K1 gc, .slice po K1 pc, .bool ta, .bool tb, .bool tc, .bool td, .slice teo ten tec, .bool tf, .slice tgo tgn tgc, .slice tio tinn tic, .slice tjo tjn tjc]) ∧ Hid ((cv = 0 ∧ listC (cmpTy h) fs gs = listC (cmpTy h) (fs.drop k) (gs.drop k)) ∨ (cv ≠ 0 ∧ listC (cmpTy h) fs gs = cv))) (fun _ i _ => K1 - (intOf i).toNat)
          case atStart => exact ⟨0, 0, Nat.zero_le _, rfl, rfl, HX, .inl ⟨rfl, rfl⟩⟩
          case round =>
            clear p2 q2 g1 hlt hk HX
            obtain ⟨j, cv, hk, rfl, rfl, HX, HQ⟩ := hrel
            have p1 : wr.cell? ⟨w.heap.size, 1, none⟩ = some (.slice fo K1 fc) := HX.out.one 1
            have q1 : wr.cell? ⟨w.heap.size + 1, 1, none⟩ = some (.slice go K1 gc) := HX.out.two 1
            by_cases hc : cv = 0
            · subst hc
              have HQ' : Hid (listC (cmpTy h) fs gs = listC (cmpTy h) (fs.drop j) (gs.drop j)) := by
                rcases HQ.out with hh | hh
                · exact hh.2
                · exact absurd rfl hh.1
              clear HQ
              by_cases hlt : j < K1
              · have g1 : (j : Int) < (K1 : Int) := by omega
                have g0 : (0 : Int) ≤ (j : Int) := by omega
                have hka : j < fs.length := by rw [← HL3.out]; exact hlt
                have hkb : j < gs.length := by rw [← HL4.out]; exact hlt
                obtain ⟨b1, off1, hq1, hbl1, hrow1⟩ := (HFA.out wr HX.out.below).row (by omega)
                subst hq1
                obtain ⟨b2, off2, hq2, hbl2, hrow2⟩ := (HFB.out wr HX.out.below).row (by omega)
                subst hq2
                obtain ⟨u0', u1', u2', u3', u4', u5', u6', u7', u8', ⟨x0, x1, x2, x3, x4, x5, x6, x7, x8⟩, ht⟩ := hrow1 j hka
                obtain ⟨v0', v1', v2', v3', v4', v5', v6', v7', v8', ⟨y0, y1, y2, y3, y4, y5, y6, y7, y8⟩, hu⟩ := hrow2 j hkb
                obtain ⟨xxa, xxb, xxc, xxd, ⟨xxeo, xxen, xxec⟩, xxf, ⟨xxgo, xxgn, xxgc⟩, ⟨xxio, xxinn, xxic⟩, ⟨xxjo, xxjn, xxjc⟩, eshxx⟩ := inT_shape ht
                simp only [Value.agg.injEq, Array.mk.injEq, List.cons.injEq, and_true] at eshxx
                obtain ⟨rfl, rfl, rfl, rfl, rfl, rfl, rfl, rfl, rfl⟩ := eshxx
                obtain ⟨yya, yyb, yyc, yyd, ⟨yyeo, yyen, yyec⟩, yyf, ⟨yygo, yygn, yygc⟩, ⟨yyio, yyinn, yyic⟩, ⟨yyjo, yyjn, yyjc⟩, eshyy⟩ := inT_shape hu
                simp only [Value.agg.injEq, Array.mk.injEq, List.cons.injEq, and_true] at eshyy
                obtain ⟨rfl, rfl, rfl, rfl, rfl, rfl, rfl, rfl, rfl⟩ := eshyy
                have HS := Hid.mk (listC_step (c := cmpTy h) hka hkb)
                have HC := Hid.mk (fun (d : Nat) (os : Array Obj) => HIF.out j hka hkb _ _ (grow (redrawn wr d) os) (ht.keep (below_regrown wr d os)) (hu.keep (below_regrown wr d os)))
                generalize cmpTy h fs[j] gs[j] = c at HC HS
                have HN2 : Hid ((c = 0 ∧ listC (cmpTy h) fs gs = listC (cmpTy h) (fs.drop (j + 1)) (gs.drop (j + 1))) ∨ (c ≠ 0 ∧ listC (cmpTy h) fs gs = c)) := by
                  by_cases h0 : c = 0
                  · exact .inl ⟨h0, by rw [HQ'.out, HS.out, if_pos h0]⟩
                  · exact .inr ⟨h0, by rw [HQ'.out, HS.out, if_neg h0]⟩
                clear hrow1 hrow2 hka hkb HS HQ' ht hu
                have Ax0 := fun d os => cell_regrown x0 d os
                have Ay0 := fun d os => cell_regrown y0 d os
                have Ax1 := fun d os => cell_regrown x1 d os
                have Ay1 := fun d os => cell_regrown y1 d os
                have Ax2 := fun d os => cell_regrown x2 d os
                have Ay2 := fun d os => cell_regrown y2 d os
                have Ax3 := fun d os => cell_regrown x3 d os
                have Ay3 := fun d os => cell_regrown y3 d os
                have Ax4 := fun d os => cell_regrown x4 d os
                have Ay4 := fun d os => cell_regrown y4 d os
                have Ax5 := fun d os => cell_regrown x5 d os
                have Ay5 := fun d os => cell_regrown y5 d os
                have Ax6 := fun d os => cell_regrown x6 d os
                have Ay6 := fun d os => cell_regrown y6 d os
                have Ax7 := fun d os => cell_regrown x7 d os
                have Ay7 := fun d os => cell_regrown y7 d os
                have Ax8 := fun d os => cell_regrown x8 d os
                have Ay8 := fun d os => cell_regrown y8 d os
                have Ap1 := fun d os => cell_regrown p1 d os
                have Aq1 := fun d os => cell_regrown q1 d os
                go_wp2_with fail
                refine wp_region_quiet_below (by kernel_rfl) (by kernel_rfl) ?_
                repeat (go_big_quiet_step (exact Calls.regrown_of (HC.out _ _)))
                refine wpQuiet_nil ?_
                intro w9 hw'
                have hb9 : Below wr.heap.size wr w9 := by
                  obtain ⟨⟨dq, osq⟩, rfl⟩ := hw'
                  exact below_regrown wr dq osq
                have HX9 := Hid.mk (HX.out.keep hb9)
                clear hw' hb9 Ax0 x0 Ay0 y0 Ax1 x1 Ay1 y1 Ax2 x2 Ay2 y2 Ax3 x3 Ay3 y3 Ax4 x4 Ay4 y4 Ax5 x5 Ay5 y5 Ax6 x6 Ay6 y6 Ax7 x7 Ay7 y7 Ax8 x8 Ay8 y8 p1 q1 Ap1 Aq1
                go_wp2_with fail
                go_roundw
                case rel => exact ⟨j + 1, c, hlt, rfl, by go_num, HX9, HN2⟩
                case measure => simp [intOf]; omega
              · have g1 : ¬ (j : Int) < (K1 : Int) := by omega
                have hm0 : listC (cmpTy h) fs gs = 0 := by rw [HQ'.out]; exact listC_even (by have := HL3.out; omega) (by have := HL4.out; omega)
                have HN : Hid (R = z) := by show _ = _; rw [HG3.out, hm0]; rfl
                clear HG3 hm0 HQ'
                have p3 : wr.cell? ⟨w.heap.size, 3, none⟩ = some (.bool sa) := HX.out.one 3
                have q3 : wr.cell? ⟨w.heap.size + 1, 3, none⟩ = some (.bool ta) := HX.out.two 3
                have p4 : wr.cell? ⟨w.heap.size, 4, none⟩ = some (.bool sb) := HX.out.one 4
                have q4 : wr.cell? ⟨w.heap.size + 1, 4, none⟩ = some (.bool tb) := HX.out.two 4
                have p5 : wr.cell? ⟨w.heap.size, 5, none⟩ = some (.bool sc) := HX.out.one 5
                have q5 : wr.cell? ⟨w.heap.size + 1, 5, none⟩ = some (.bool tc) := HX.out.two 5
                have p6 : wr.cell? ⟨w.heap.size, 6, none⟩ = some (.bool sd) := HX.out.one 6
                have q6 : wr.cell? ⟨w.heap.size + 1, 6, none⟩ = some (.bool td) := HX.out.two 6
                have p7 : wr.cell? ⟨w.heap.size, 7, none⟩ = some (.slice seo sen sec) := HX.out.one 7
                have q7 : wr.cell? ⟨w.heap.size + 1, 7, none⟩ = some (.slice teo ten tec) := HX.out.two 7
                have p8 : wr.cell? ⟨w.heap.size, 8, none⟩ = some (.bool sf) := HX.out.one 8
                have q8 : wr.cell? ⟨w.heap.size + 1, 8, none⟩ = some (.bool tf) := HX.out.two 8
                have p9 : wr.cell? ⟨w.heap.size, 9, none⟩ = some (.slice sgo sgn sgc) := HX.out.one 9
                have q9 : wr.cell? ⟨w.heap.size + 1, 9, none⟩ = some (.slice tgo tgn tgc) := HX.out.two 9
                have p10 : wr.cell? ⟨w.heap.size, 10, none⟩ = some (.slice sio sinn sic) := HX.out.one 10
                have q10 : wr.cell? ⟨w.heap.size + 1, 10, none⟩ = some (.slice tio tinn tic) := HX.out.two 10
                have p11 : wr.cell? ⟨w.heap.size, 11, none⟩ = some (.slice sjo sjn sjc) := HX.out.one 11
                have q11 : wr.cell? ⟨w.heap.size + 1, 11, none⟩ = some (.slice tjo tjn tjc) := HX.out.two 11
                go_wp2_with fail
                refine (HR1.out _ HX.out.below).mono ?_
                rintro e w3 ⟨rfl, hb3⟩
                have HZ := Hid.mk (HX.out.keep hb3)
                clear hb3 p3 q3 p4 q4 p5 q5 p6 q6 p7 q7 p8 q8 p9 q9 p10 q10 p11 q11
                go_wp2_with fail
                go_ret
                exact ⟨by rw [HN.out]; rfl, HZ.out.below⟩
            · have hv : listC (cmpTy h) fs gs = cv := by
                rcases HQ.out with hh | hh
                · exact absurd hh.1 hc
                · exact hh.2
              have HN : Hid (R = cv) := by show _ = _; rw [HG3.out, hv]; unfold Pl.orI; rw [if_neg hc]
              have hc' : (cv == 0) = false := by simpa using hc
              clear hv HQ HG3 hc
              by_cases hlt : j < K1
              · have g1 : (j : Int) < (K1 : Int) := by omega
                go_wp2_with fail
                go_ret
                exact ⟨by rw [HN.out]; rfl, HX.out.below⟩
              · have g1 : ¬ (j : Int) < (K1 : Int) := by omega
                go_wp2_with fail
                go_ret
                exact ⟨by rw [HN.out]; rfl, HX.out.below⟩
      · have hv : listC setC xs ys = cv := by
          rcases HQ.out with hh | hh
          · exact absurd hh.1 hc
          · exact hh.2
        have HN : Hid (R = cv) := by show _ = _; rw [HG2.out, hv]; unfold Pl.orI; rw [if_neg hc]
        have hc' : (cv == 0) = false := by simpa using hc
        clear hv HQ HG2 hc
        have p1 : wr.cell? ⟨w.heap.size, 1, none⟩ = some (.slice fo K1 fc) := HX.out.one 1
        have q1 : wr.cell? ⟨w.heap.size + 1, 1, none⟩ = some (.slice go K1 gc) := HX.out.two 1
        by_cases hK : 0 < K1
        · have gK : (0 : Int) < (K1 : Int) := by omega
          by_cases hlt : k < K1
          · have g1 : (k : Int) < (K1 : Int) := by omega
            go_wp2_with fail
            refine wp_loop_rounds 1 ?_
            rw [rounds_succ]
            go_wp2_with fail
            go_ret
            exact ⟨by rw [HN.out]; rfl, HX.out.below⟩
          · have g1 : ¬ (k : Int) < (K1 : Int) := by omega
            go_wp2_with fail
            refine wp_loop_rounds 1 ?_
            rw [rounds_succ]
            go_wp2_with fail
            go_ret
            exact ⟨by rw [HN.out]; rfl, HX.out.below⟩
        · have gK : ¬ (0 : Int) < (K1 : Int) := by omega
          have g1 : ¬ (k : Int) < (K1 : Int) := by omega
          have hk0 : k = 0 := by omega
          go_wp2_with fail
          refine wp_loop_rounds 1 ?_
          rw [rounds_succ]
          go_wp2_with fail
          go_ret
          exact ⟨by rw [HN.out]; rfl, HX.out.below⟩
  · have HN : Hid (R = x) := by show _ = _; rw [HG.out]; unfold Pl.orI; simp [hx]
    have hc' : (x == 0) = false := by simpa using hx
    clear HG HEQ hx
    have p1 : w1.cell? ⟨w.heap.size, 1, none⟩ = some (.slice fo K1 fc) := HY.out.one 1
    have q1 : w1.cell? ⟨w.heap.size + 1, 1, none⟩ = some (.slice go K2 gc) := HY.out.two 1
    have p2 : w1.cell? ⟨w.heap.size, 2, none⟩ = some (.slice mo K1 mc) := HY.out.one 2
    have q2 : w1.cell? ⟨w.heap.size + 1, 2, none⟩ = some (.slice po K2 pc) := HY.out.two 2
    by_cases hK : 0 < K1
    · have gK : (0 : Int) < (K1 : Int) := by omega
      by_cases hK2 : 0 < K2
      · have gK2 : (0 : Int) < (K2 : Int) := by omega
        go_wp2_with fail
        refine wp_loop_rounds 1 ?_
        rw [rounds_succ]
        go_wp2_with fail
        refine wp_loop_rounds 1 ?_
        rw [rounds_succ]
        go_wp2_with fail
        go_ret
        exact ⟨by rw [HN.out]; rfl, HY.out.below⟩
      · have gK2 : ¬ (0 : Int) < (K2 : Int) := by omega
        go_wp2_with fail
        refine wp_loop_rounds 1 ?_
        rw [rounds_succ]
        go_wp2_with fail
        refine wp_loop_rounds 1 ?_
        rw [rounds_succ]
        go_wp2_with fail
        go_ret
        exact ⟨by rw [HN.out]; rfl, HY.out.below⟩
    · have gK : ¬ (0 : Int) < (K1 : Int) := by omega
      go_wp2_with fail
      refine wp_loop_rounds 1 ?_
      rw [rounds_succ]
      go_wp2_with fail
      refine wp_loop_rounds 1 ?_
      rw [rounds_succ]
      go_wp2_with fail
      go_ret
      exact ⟨by rw [HN.out]; rfl, HY.out.below⟩
end Go.Proofs.Ytahknjhphbpmiaa
