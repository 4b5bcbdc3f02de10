import Derived.Test.YtahknjhphbpmiaaZCR3
namespace Go.Proofs.Ytahknjhphbpmiaa
open Go.RowKit Go.Shelf Go.Sort
set_option linter.unusedVariables false
set_option linter.unusedSimpArgs false
attribute [local go_sem] Oper.semAt_some

set_option maxRecDepth 100000 in
set_option maxHeartbeats 6400000 in
theorem w_rObjsL (h : Nat) (ih : RcT h) (ao : Option Addr) (M ac : Nat) (xs : List (OB)) (bo : Option Addr) (N bc : Nat) (ys : List (OB)) (w : World) (ha : ObIn w h ao xs) (hb : ObIn w h bo ys) (hM : xs.length = M) (hN : ys.length = N) (h1 : M ≤ ac) (h2 : N ≤ bc) (h3 : M ≤ 140737488355328) (h4 : N ≤ 140737488355328) (kx : ∀ o ∈ xs, (o.names.length = o.fields.length ∧ o.names.length = o.must.length) ∧ (∀ f ∈ o.fields, goodT h f) ∧ goodT h o.rest) (ky : ∀ o ∈ ys, (o.names.length = o.fields.length ∧ o.names.length = o.must.length) ∧ (∀ f ∈ o.fields, goodT h f) ∧ goodT h o.rest) :
    Calls Try.prog 26 #[.slice ao M ac, .slice bo N bc] w fun e w' => e = .returned (.int .i64 (listC (obC (cmpTy h)) xs ys)) ∧ Below w.heap.size w w' := by
  have HA := Hid.mk ha
  have HB := Hid.mk hb
  have HM := Hid.mk hM
  have HN := Hid.mk hN
  have HL := Hid.mk (fun u => w_rLens (M : Int) (N : Int) u)
  have HKX := Hid.mk kx
  have HKY := Hid.mk ky
  have HIh := Hid.mk ih
  clear kx ky ih
  clear ha hb hM hN
  go_enter Try.func26, Try.ntmps26
  go_wp2_with fail
  go_loopw [5] (fun i wr => ∃ k : Nat, k ≤ M ∧ k ≤ N ∧ i = .int .i64 (k : Int) ∧ Hid (Below w.heap.size w wr) ∧ Hid (listC (obC (cmpTy h)) xs ys = listC (obC (cmpTy h)) (xs.drop k) (ys.drop k))) (fun i _ => M - (intOf i).toNat)
  case atStart => exact ⟨0, Nat.zero_le _, Nat.zero_le _, rfl, Below.refl _ _, rfl⟩
  case round =>
    obtain ⟨k, hk, hk2, rfl, HW, HQ⟩ := hrel
    by_cases hlt : k < M
    · have hl1 : (k : Int) < (M : Int) := by omega
      have hl0 : (0 : Int) ≤ (k : Int) := by omega
      by_cases hlt2 : k < N
      · have hl2 : (k : Int) < (N : Int) := by omega
        have hka : k < xs.length := by rw [HM.out]; exact hlt
        have hkb : k < ys.length := by rw [HN.out]; exact hlt2
        have HS := Hid.mk (listC_step (c := (obC (cmpTy h))) hka hkb)
        clear HL
        obtain ⟨b1, off1, hp1, hbl1, hrow1⟩ := (HA.out.keep HW.out).row (by omega)
        subst hp1
        obtain ⟨ko, kc, fo, fc, mo, mc, u0', u1', u2', u3', u4', u5', u6', u7', u8', ⟨x0, x1, x2⟩, ⟨x3, x4, x5, x6, x7, x8, x9, x10, x11⟩, ht⟩ := hrow1 k hka
        have htr := ht.rest
        obtain ⟨sa, sb, sc, sd, ⟨seo, sen, sec⟩, sf, ⟨sgo, sgn, sgc⟩, ⟨sio, sinn, sic⟩, ⟨sjo, sjn, sjc⟩, eshs⟩ := inT_shape htr
        simp only [Value.agg.injEq, Array.mk.injEq, List.cons.injEq, and_true] at eshs
        obtain ⟨rfl, rfl, rfl, rfl, rfl, rfl, rfl, rfl, rfl⟩ := eshs
        obtain ⟨b2, off2, hp2, hbl2, hrow2⟩ := (HB.out.keep HW.out).row (by omega)
        subst hp2
        obtain ⟨lo, lc, go, gc, po, pc, v0', v1', v2', v3', v4', v5', v6', v7', v8', ⟨y0, y1, y2⟩, ⟨y3, y4, y5, y6, y7, y8, y9, y10, y11⟩, hu⟩ := hrow2 k hkb
        have hur := hu.rest
        obtain ⟨ta, tb, tc, td, ⟨teo, ten, tec⟩, tf, ⟨tgo, tgn, tgc⟩, ⟨tio, tinn, tic⟩, ⟨tjo, tjn, tjc⟩, esht⟩ := inT_shape hur
        simp only [Value.agg.injEq, Array.mk.injEq, List.cons.injEq, and_true] at esht
        obtain ⟨rfl, rfl, rfl, rfl, rfl, rfl, rfl, rfl, rfl⟩ := esht
        replace x4 : wr.cell? ⟨b1, off1 + k * 12 + 4, none⟩ = _ := x4
        replace x5 : wr.cell? ⟨b1, off1 + k * 12 + 5, none⟩ = _ := x5
        replace x6 : wr.cell? ⟨b1, off1 + k * 12 + 6, none⟩ = _ := x6
        replace x7 : wr.cell? ⟨b1, off1 + k * 12 + 7, none⟩ = _ := x7
        replace x8 : wr.cell? ⟨b1, off1 + k * 12 + 8, none⟩ = _ := x8
        replace x9 : wr.cell? ⟨b1, off1 + k * 12 + 9, none⟩ = _ := x9
        replace x10 : wr.cell? ⟨b1, off1 + k * 12 + 10, none⟩ = _ := x10
        replace x11 : wr.cell? ⟨b1, off1 + k * 12 + 11, none⟩ = _ := x11
        replace y4 : wr.cell? ⟨b2, off2 + k * 12 + 4, none⟩ = _ := y4
        replace y5 : wr.cell? ⟨b2, off2 + k * 12 + 5, none⟩ = _ := y5
        replace y6 : wr.cell? ⟨b2, off2 + k * 12 + 6, none⟩ = _ := y6
        replace y7 : wr.cell? ⟨b2, off2 + k * 12 + 7, none⟩ = _ := y7
        replace y8 : wr.cell? ⟨b2, off2 + k * 12 + 8, none⟩ = _ := y8
        replace y9 : wr.cell? ⟨b2, off2 + k * 12 + 9, none⟩ = _ := y9
        replace y10 : wr.cell? ⟨b2, off2 + k * 12 + 10, none⟩ = _ := y10
        replace y11 : wr.cell? ⟨b2, off2 + k * 12 + 11, none⟩ = _ := y11
        have HC := Hid.mk (fun (d : Nat) (os : Array Obj) => w_rObj h HIh.out xs[k] ys[k] ko fo mo lo go po kc fc mc lc gc pc _ _ _ _ _ _ _ _ _ _ _ _ _ _ _ _ _ _ (grow (redrawn wr d) os) (ht.keep (below_regrown wr d os)) (hu.keep (below_regrown wr d os)) (HKX.out _ (List.getElem_mem hka)) (HKY.out _ (List.getElem_mem hkb)))
        generalize obC (cmpTy h) xs[k] ys[k] = c at HC HS
        generalize xs[k].names.length = K1 at *
        generalize xs[k].fields.length = F1 at *
        generalize xs[k].must.length = M1 at *
        generalize ys[k].names.length = K2 at *
        generalize ys[k].fields.length = F2 at *
        generalize ys[k].must.length = M2 at *
        clear hrow1 hrow2 hka hkb ht hu htr hur
        have Ax0 := fun d os => cell_regrown x0 d os
        have Ax1 := fun d os => cell_regrown x1 d os
        have Ax2 := fun d os => cell_regrown x2 d os
        have Ax3 := fun d os => cell_regrown x3 d os
        have Ax4 := fun d os => cell_regrown x4 d os
        have Ax5 := fun d os => cell_regrown x5 d os
        have Ax6 := fun d os => cell_regrown x6 d os
        have Ax7 := fun d os => cell_regrown x7 d os
        have Ax8 := fun d os => cell_regrown x8 d os
        have Ax9 := fun d os => cell_regrown x9 d os
        have Ax10 := fun d os => cell_regrown x10 d os
        have Ax11 := fun d os => cell_regrown x11 d os
        have Ay0 := fun d os => cell_regrown y0 d os
        have Ay1 := fun d os => cell_regrown y1 d os
        have Ay2 := fun d os => cell_regrown y2 d os
        have Ay3 := fun d os => cell_regrown y3 d os
        have Ay4 := fun d os => cell_regrown y4 d os
        have Ay5 := fun d os => cell_regrown y5 d os
        have Ay6 := fun d os => cell_regrown y6 d os
        have Ay7 := fun d os => cell_regrown y7 d os
        have Ay8 := fun d os => cell_regrown y8 d os
        have Ay9 := fun d os => cell_regrown y9 d os
        have Ay10 := fun d os => cell_regrown y10 d os
        have Ay11 := fun d os => cell_regrown y11 d os
        by_cases h0 : c = 0
        · have HN2 : Hid (listC (obC (cmpTy h)) xs ys = listC (obC (cmpTy h)) (xs.drop (k + 1)) (ys.drop (k + 1))) := by show _ = _; rw [HQ.out, HS.out, if_pos h0]
          subst h0
          clear HS HQ
          go_wp2_with fail
          refine wp_region_quiet_below (by kernel_rfl) (by kernel_rfl) ?_
          repeat (go_big_quiet_step (exact Calls.regrown_of (HC.out _ _)))
          refine wpQuiet_nil ?_
          intro w9 hw'
          have hb9 : Below wr.heap.size wr w9 := by
            obtain ⟨⟨dq, osq⟩, rfl⟩ := hw'
            exact below_regrown wr dq osq
          have HW9 := Hid.mk (HW.out.trans (hb9.mono HW.out.size))
          clear hw' hb9 Ax0 x0 Ax1 x1 Ax2 x2 Ax3 x3 Ax4 x4 Ax5 x5 Ax6 x6 Ax7 x7 Ax8 x8 Ax9 x9 Ax10 x10 Ax11 x11 Ay0 y0 Ay1 y1 Ay2 y2 Ay3 y3 Ay4 y4 Ay5 y5 Ay6 y6 Ay7 y7 Ay8 y8 Ay9 y9 Ay10 y10 Ay11 y11
          go_wp2_with fail
          go_roundw
          case rel => exact ⟨k + 1, hlt, hlt2, by go_num, HW9, HN2⟩
          case measure => simp [intOf]; omega
        · have HN2 : Hid (listC (obC (cmpTy h)) xs ys = c) := by show _ = _; rw [HQ.out, HS.out, if_neg h0]
          have h0' : (c != 0) = true := by simpa using h0
          clear HS HQ h0
          go_wp2_with fail
          refine wp_region_quiet_below (by kernel_rfl) (by kernel_rfl) ?_
          repeat (go_big_quiet_step (exact Calls.regrown_of (HC.out _ _)))
          refine wpQuiet_nil ?_
          intro w9 hw'
          have hb9 : Below wr.heap.size wr w9 := by
            obtain ⟨⟨dq, osq⟩, rfl⟩ := hw'
            exact below_regrown wr dq osq
          have HW9 := Hid.mk (HW.out.trans (hb9.mono HW.out.size))
          clear hw' hb9 Ax0 x0 Ax1 x1 Ax2 x2 Ax3 x3 Ax4 x4 Ax5 x5 Ax6 x6 Ax7 x7 Ax8 x8 Ax9 x9 Ax10 x10 Ax11 x11 Ay0 y0 Ay1 y1 Ay2 y2 Ay3 y3 Ay4 y4 Ay5 y5 Ay6 y6 Ay7 y7 Ay8 y8 Ay9 y9 Ay10 y10 Ay11 y11
          go_wp2_with fail
          go_ret
          exact ⟨by rw [HN2.out]; rfl, HW9.out⟩
      · have hl2 : ¬ (k : Int) < (N : Int) := by omega
        have HF : Hid (listC (obC (cmpTy h)) xs ys = Pl.cmpI M N) := by show _ = _; rw [HQ.out]; exact lens_end HM.out HN.out hk hk2 (.inr hlt2)
        generalize Pl.cmpI (M : Int) (N : Int) = z at HF HL
        clear HQ HA HB
        go_wp2_with fail
        refine (HL.out _).mono ?_
        rintro e w2 ⟨rfl, hw⟩
        obtain rfl := hw.symm
        go_wp2_with fail
        go_ret
        exact ⟨by rw [HF.out]; rfl, HW.out⟩
    · have hl1 : ¬ (k : Int) < (M : Int) := by omega
      have HF : Hid (listC (obC (cmpTy h)) xs ys = Pl.cmpI M N) := by show _ = _; rw [HQ.out]; exact lens_end HM.out HN.out hk hk2 (.inl hlt)
      generalize Pl.cmpI (M : Int) (N : Int) = z at HF HL
      clear HQ HA HB
      go_wp2_with fail
      refine (HL.out _).mono ?_
      rintro e w2 ⟨rfl, hw⟩
      obtain rfl := hw.symm
      go_wp2_with fail
      go_ret
      exact ⟨by rw [HF.out]; rfl, HW.out⟩

set_option maxRecDepth 100000 in
set_option maxHeartbeats 6400000 in
theorem rcmpT_step (sa sb sc sd : Bool) (seo : Option Addr) (sen sec : Nat) (sf : Bool) (sgo : Option Addr) (sgn sgc : Nat) (sio : Option Addr) (sinn sic : Nat) (sjo : Option Addr) (sjn sjc : Nat) (ta tb tc td : Bool) (teo : Option Addr) (ten tec : Nat) (tf : Bool) (tgo : Option Addr) (tgn tgc : Nat) (tio : Option Addr) (tinn tic : Nat) (tjo : Option Addr) (tjn tjc : Nat) (w : World) (r0 r1 r2 r3 r4 r5 : Int)
    (H0 : Hid (∀ u, Below w.heap.size w u → Calls Try.prog 21 #[.agg #[.bool sa, .bool sb, .bool sc, .bool sd, .slice seo sen sec, .bool sf, .slice sgo sgn sgc, .slice sio sinn sic, .slice sjo sjn sjc], .agg #[.bool ta, .bool tb, .bool tc, .bool td, .slice teo ten tec, .bool tf, .slice tgo tgn tgc, .slice tio tinn tic, .slice tjo tjn tjc]] u fun e w' => e = .returned (.int .i64 r0) ∧ Below u.heap.size u w'))
    (H1 : Hid (∀ u, Below w.heap.size w u → Calls Try.prog 22 #[.slice seo sen sec, .slice teo ten tec] u fun e w' => e = .returned (.int .i64 r1) ∧ Below u.heap.size u w'))
    (H2 : Hid (∀ u, Below w.heap.size w u → Calls Try.prog 23 #[.bool sf, .bool tf] u fun e w' => e = .returned (.int .i64 r2) ∧ Below u.heap.size u w'))
    (H3 : Hid (∀ u, Below w.heap.size w u → Calls Try.prog 24 #[.slice sgo sgn sgc, .slice tgo tgn tgc] u fun e w' => e = .returned (.int .i64 r3) ∧ Below u.heap.size u w'))
    (H4 : Hid (∀ u, Below w.heap.size w u → Calls Try.prog 25 #[.slice sio sinn sic, .slice tio tinn tic] u fun e w' => e = .returned (.int .i64 r4) ∧ Below u.heap.size u w'))
    (H5 : Hid (∀ u, Below w.heap.size w u → Calls Try.prog 26 #[.slice sjo sjn sjc, .slice tjo tjn tjc] u fun e w' => e = .returned (.int .i64 r5) ∧ Below u.heap.size u w')) :
    Calls Try.prog 8 #[.agg #[.bool sa, .bool sb, .bool sc, .bool sd, .slice seo sen sec, .bool sf, .slice sgo sgn sgc, .slice sio sinn sic, .slice sjo sjn sjc], .agg #[.bool ta, .bool tb, .bool tc, .bool td, .slice teo ten tec, .bool tf, .slice tgo tgn tgc, .slice tio tinn tic, .slice tjo tjn tjc]] w fun e w' => e = .returned (.int .i64 (Pl.orI r0 (Pl.orI r1 (Pl.orI r2 (Pl.orI r3 (Pl.orI r4 r5)))))) ∧ Below w.heap.size w w' := by
  obtain ⟨R, hR⟩ : ∃ R, Pl.orI r0 (Pl.orI r1 (Pl.orI r2 (Pl.orI r3 (Pl.orI r4 r5)))) = R := ⟨_, rfl⟩
  have HQ0 := Hid.mk hR.symm
  rw [hR]
  clear hR
  have HX := Hid.mk (bx2_new w #[.bool sa, .bool sb, .bool sc, .bool sd, .slice seo sen sec, .bool sf, .slice sgo sgn sgc, .slice sio sinn sic, .slice sjo sjn sjc] #[.bool ta, .bool tb, .bool tc, .bool td, .slice teo ten tec, .bool tf, .slice tgo tgn tgc, .slice tio tinn tic, .slice tjo tjn tjc] 27)
  obtain ⟨W0, hW0⟩ : ∃ W0, (w.alloc (.cells #[.bool sa, .bool sb, .bool sc, .bool sd, .slice seo sen sec, .bool sf, .slice sgo sgn sgc, .slice sio sinn sic, .slice sjo sjn sjc] 27)).alloc (.cells #[.bool ta, .bool tb, .bool tc, .bool td, .slice teo ten tec, .bool tf, .slice tgo tgn tgc, .slice tio tinn tic, .slice tjo tjn tjc] 27) = W0 := ⟨_, rfl⟩
  rw [hW0] at HX
  have p0 : W0.cell? ⟨w.heap.size, 0, none⟩ = some (.bool sa) := HX.out.one 0
  have q0 : W0.cell? ⟨w.heap.size + 1, 0, none⟩ = some (.bool ta) := HX.out.two 0
  have p1 : W0.cell? ⟨w.heap.size, 1, none⟩ = some (.bool sb) := HX.out.one 1
  have q1 : W0.cell? ⟨w.heap.size + 1, 1, none⟩ = some (.bool tb) := HX.out.two 1
  have p2 : W0.cell? ⟨w.heap.size, 2, none⟩ = some (.bool sc) := HX.out.one 2
  have q2 : W0.cell? ⟨w.heap.size + 1, 2, none⟩ = some (.bool tc) := HX.out.two 2
  have p3 : W0.cell? ⟨w.heap.size, 3, none⟩ = some (.bool sd) := HX.out.one 3
  have q3 : W0.cell? ⟨w.heap.size + 1, 3, none⟩ = some (.bool td) := HX.out.two 3
  have p4 : W0.cell? ⟨w.heap.size, 4, none⟩ = some (.slice seo sen sec) := HX.out.one 4
  have q4 : W0.cell? ⟨w.heap.size + 1, 4, none⟩ = some (.slice teo ten tec) := HX.out.two 4
  have p5 : W0.cell? ⟨w.heap.size, 5, none⟩ = some (.bool sf) := HX.out.one 5
  have q5 : W0.cell? ⟨w.heap.size + 1, 5, none⟩ = some (.bool tf) := HX.out.two 5
  have p6 : W0.cell? ⟨w.heap.size, 6, none⟩ = some (.slice sgo sgn sgc) := HX.out.one 6
  have q6 : W0.cell? ⟨w.heap.size + 1, 6, none⟩ = some (.slice tgo tgn tgc) := HX.out.two 6
  have p7 : W0.cell? ⟨w.heap.size, 7, none⟩ = some (.slice sio sinn sic) := HX.out.one 7
  have q7 : W0.cell? ⟨w.heap.size + 1, 7, none⟩ = some (.slice tio tinn tic) := HX.out.two 7
  have p8 : W0.cell? ⟨w.heap.size, 8, none⟩ = some (.slice sjo sjn sjc) := HX.out.one 8
  have q8 : W0.cell? ⟨w.heap.size + 1, 8, none⟩ = some (.slice tjo tjn tjc) := HX.out.two 8
  go_enter Try.func8, Try.ntmps8
  go_wp2_with fail
  refine (H0.out _ HX.out.below).mono ?_
  rintro e w1 ⟨rfl, hq⟩
  have HX' := Hid.mk (HX.out.keep hq)
  clear hq HX H0 hW0 p0 q0 p1 q1 p2 q2 p3 q3 p4 q4 p5 q5 p6 q6 p7 q7 p8 q8
  have HX := HX'
  clear HX'
  by_cases h0 : r0 = 0
  · subst h0
    have HQ1 : Hid (R = (Pl.orI r1 (Pl.orI r2 (Pl.orI r3 (Pl.orI r4 r5))))) := HQ0.out
    clear HQ0
    have p4 : w1.cell? ⟨w.heap.size, 4, none⟩ = some (.slice seo sen sec) := HX.out.one 4
    have q4 : w1.cell? ⟨w.heap.size + 1, 4, none⟩ = some (.slice teo ten tec) := HX.out.two 4
    go_wp2_with fail
    refine (H1.out _ HX.out.below).mono ?_
    rintro e w2 ⟨rfl, hq⟩
    have HX' := Hid.mk (HX.out.keep hq)
    clear hq HX H1 p4 q4
    have HX := HX'
    clear HX'
    by_cases h1 : r1 = 0
    · subst h1
      have HQ2 : Hid (R = (Pl.orI r2 (Pl.orI r3 (Pl.orI r4 r5)))) := HQ1.out
      clear HQ1
      have p5 : w2.cell? ⟨w.heap.size, 5, none⟩ = some (.bool sf) := HX.out.one 5
      have q5 : w2.cell? ⟨w.heap.size + 1, 5, none⟩ = some (.bool tf) := HX.out.two 5
      go_wp2_with fail
      refine (H2.out _ HX.out.below).mono ?_
      rintro e w3 ⟨rfl, hq⟩
      have HX' := Hid.mk (HX.out.keep hq)
      clear hq HX H2 p5 q5
      have HX := HX'
      clear HX'
      by_cases h2 : r2 = 0
      · subst h2
        have HQ3 : Hid (R = (Pl.orI r3 (Pl.orI r4 r5))) := HQ2.out
        clear HQ2
        have p6 : w3.cell? ⟨w.heap.size, 6, none⟩ = some (.slice sgo sgn sgc) := HX.out.one 6
        have q6 : w3.cell? ⟨w.heap.size + 1, 6, none⟩ = some (.slice tgo tgn tgc) := HX.out.two 6
        go_wp2_with fail
        refine (H3.out _ HX.out.below).mono ?_
        rintro e w4 ⟨rfl, hq⟩
        have HX' := Hid.mk (HX.out.keep hq)
        clear hq HX H3 p6 q6
        have HX := HX'
        clear HX'
        by_cases h3 : r3 = 0
        · subst h3
          have HQ4 : Hid (R = (Pl.orI r4 r5)) := HQ3.out
          clear HQ3
          have p7 : w4.cell? ⟨w.heap.size, 7, none⟩ = some (.slice sio sinn sic) := HX.out.one 7
          have q7 : w4.cell? ⟨w.heap.size + 1, 7, none⟩ = some (.slice tio tinn tic) := HX.out.two 7
          go_wp2_with fail
          refine (H4.out _ HX.out.below).mono ?_
          rintro e w5 ⟨rfl, hq⟩
          have HX' := Hid.mk (HX.out.keep hq)
          clear hq HX H4 p7 q7
          have HX := HX'
          clear HX'
          by_cases h4 : r4 = 0
          · subst h4
            have HQ5 : Hid (R = r5) := HQ4.out
            clear HQ4
            have p8 : w5.cell? ⟨w.heap.size, 8, none⟩ = some (.slice sjo sjn sjc) := HX.out.one 8
            have q8 : w5.cell? ⟨w.heap.size + 1, 8, none⟩ = some (.slice tjo tjn tjc) := HX.out.two 8
            go_wp2_with fail
            refine (H5.out _ HX.out.below).mono ?_
            rintro e w6 ⟨rfl, hq⟩
            have HX' := Hid.mk (HX.out.keep hq)
            clear hq HX H5 p8 q8
            have HX := HX'
            clear HX'
            go_wp2_with fail
            go_ret
            exact ⟨by rw [HQ5.out]; rfl, HX.out.below⟩
          · have HN : Hid (R = r4) := by show _ = _; rw [HQ4.out]; unfold Pl.orI; rw [if_neg h4]
            have h4' : (r4 == 0) = false := by simpa using h4
            clear HQ4 h4
            go_wp2_with fail
            go_ret
            exact ⟨by rw [HN.out]; rfl, HX.out.below⟩
        · have HN : Hid (R = r3) := by show _ = _; rw [HQ3.out]; unfold Pl.orI; rw [if_neg h3]
          have h3' : (r3 == 0) = false := by simpa using h3
          clear HQ3 h3
          go_wp2_with fail
          go_ret
          exact ⟨by rw [HN.out]; rfl, HX.out.below⟩
      · have HN : Hid (R = r2) := by show _ = _; rw [HQ2.out]; unfold Pl.orI; rw [if_neg h2]
        have h2' : (r2 == 0) = false := by simpa using h2
        clear HQ2 h2
        go_wp2_with fail
        go_ret
        exact ⟨by rw [HN.out]; rfl, HX.out.below⟩
    · have HN : Hid (R = r1) := by show _ = _; rw [HQ1.out]; unfold Pl.orI; rw [if_neg h1]
      have h1' : (r1 == 0) = false := by simpa using h1
      clear HQ1 h1
      go_wp2_with fail
      go_ret
      exact ⟨by rw [HN.out]; rfl, HX.out.below⟩
  · have HN : Hid (R = r0) := by show _ = _; rw [HQ0.out]; unfold Pl.orI; rw [if_neg h0]
    have h0' : (r0 == 0) = false := by simpa using h0
    clear HQ0 h0
    go_wp2_with fail
    go_ret
    exact ⟨by rw [HN.out]; rfl, HX.out.below⟩

/-- THE REFERENCE'S CMP, of every two types as they must be -/
theorem w_rCmpT : ∀ h, RcT h := by
  intro h
  induction h with
  | zero => intro A B va vb w gA gB hA hB; exact hA.elim
  | succ h ih =>
    intro A B va vb w gA gB hA hB
    obtain ⟨no, nc, xo, xc, ao, ac, oo, oc, rfl, ⟨a1, a2, a3, a4⟩, ⟨a5, a6, a7, a8⟩, z1, z2, hs, hk, ha, ho⟩ := hA
    obtain ⟨no2, nc2, xo2, xc2, ao2, ac2, oo2, oc2, rfl, ⟨b1, b2, b3, b4⟩, ⟨b5, b6, b7, b8⟩, y1, y2, hs2, hk2, ha2, ho2⟩ := hB
    have hAr : ArIn w h ao A.arrs := ⟨ha⟩
    have hAr2 : ArIn w h ao2 B.arrs := ⟨ha2⟩
    have mk : ∀ (oo : Option Addr) (T : TT), (0 < T.objs.length → ∃ b off, oo = some ⟨b, off, none⟩ ∧ b < w.heap.size ∧ ∀ i, (hi : i < T.objs.length) → ∃ (ko : Option Addr) (kc : Nat) (fo : Option Addr) (fc : Nat) (mo : Option Addr) (mc : Nat) (c0 c1 c2 c3 c4 c5 c6 c7 c8 : Value),
        (w.cell? ⟨b, off + i * 12, none⟩ = some (.slice ko T.objs[i].names.length kc) ∧ w.cell? ⟨b, off + i * 12 + 1, none⟩ = some (.slice fo T.objs[i].fields.length fc) ∧ w.cell? ⟨b, off + i * 12 + 2, none⟩ = some (.slice mo T.objs[i].must.length mc)) ∧
        C9 w b (off + i * 12 + 3) c0 c1 c2 c3 c4 c5 c6 c7 c8 ∧
        (T.objs[i].names.length ≤ kc ∧ T.objs[i].fields.length ≤ fc ∧ T.objs[i].must.length ≤ mc) ∧
        (T.objs[i].names.length ≤ 140737488355328 ∧ T.objs[i].fields.length ≤ 140737488355328 ∧ T.objs[i].must.length ≤ 140737488355328 ∧ ∀ k ∈ T.objs[i].names, k.size ≤ 140737488355328) ∧
        KIn w ko T.objs[i].names ∧ BoIn w mo T.objs[i].must ∧
        (0 < T.objs[i].fields.length → ∃ b2 off2, fo = some ⟨b2, off2, none⟩ ∧ b2 < w.heap.size ∧ ∀ j, (hj : j < T.objs[i].fields.length) → ∃ d0 d1 d2 d3 d4 d5 d6 d7 d8 : Value,
          C9 w b2 (off2 + j * 9) d0 d1 d2 d3 d4 d5 d6 d7 d8 ∧ InT w h T.objs[i].fields[j] (.agg #[d0, d1, d2, d3, d4, d5, d6, d7, d8])) ∧
        InT w h T.objs[i].rest (.agg #[c0, c1, c2, c3, c4, c5, c6, c7, c8])) → ObIn w h oo T.objs := fun oo T ho => ⟨fun h0 => by
      obtain ⟨b, off, e, hl, hc⟩ := ho h0
      refine ⟨b, off, e, hl, fun i hi => ?_⟩
      obtain ⟨ko, kc, fo, fc, mo, mc, c0, c1, c2, c3, c4, c5, c6, c7, c8, g, h1, h2, h3, h4, h5, h6, h7⟩ := hc i hi
      exact ⟨ko, kc, fo, fc, mo, mc, c0, c1, c2, c3, c4, c5, c6, c7, c8, g, h1, ⟨h2, h3, h4, h5, h6, h7⟩⟩⟩
    have hOb := mk oo A ho
    have hOb2 := mk oo2 B ho2
    exact rcmpT_step A.all A.nul A.fls A.tru no A.nums.length nc A.any xo A.texts.length xc ao A.arrs.length ac oo A.objs.length oc B.all B.nul B.fls B.tru no2 B.nums.length nc2 B.any xo2 B.texts.length xc2 ao2 B.arrs.length ac2 oo2 B.objs.length oc2 w
      (flC A B) (listC spC A.nums B.nums) (setC A.any B.any) (listC keyC A.texts B.texts) (listC (arC (cmpTy h)) A.arrs B.arrs) (listC (obC (cmpTy h)) A.objs B.objs)
      (Hid.mk fun u hu => w_rWords _ _ _ _ _ _ _ _ _ _ _ _ _ _ _ _ _ _ _ _ _ _ _ _ _ _ _ _ _ _ _ _ _ _ u)
      (Hid.mk fun u hu => w_rNumsL no _ nc A.nums no2 _ nc2 B.nums u (hs.keep hu) (hs2.keep hu) rfl rfl a1 b1 a5 b5 (fun p hp => ⟨gA.1 p hp, z1 p hp⟩) (fun p hp => ⟨gB.1 p hp, y1 p hp⟩))
      (Hid.mk fun u hu => (w_rTruth A.any B.any u).mono fun e w' k => ⟨k.1, by rw [k.2]; exact Below.refl _ _⟩)
      (Hid.mk fun u hu => w_rTextsL xo _ xc A.texts xo2 _ xc2 B.texts u (hk.keep hu) (hk2.keep hu) rfl rfl a2 b2 a6 b6)
      (Hid.mk fun u hu => w_rArrsL h ih ao _ ac A.arrs ao2 _ ac2 B.arrs u (hAr.keep hu) (hAr2.keep hu) rfl rfl a3 b3 a7 b7 gA.2.1 gB.2.1)
      (Hid.mk fun u hu => w_rObjsL h ih oo _ oc A.objs oo2 _ oc2 B.objs u (hOb.keep hu) (hOb2.keep hu) rfl rfl a4 b4 a8 b8 gA.2.2 gB.2.2)
end Go.Proofs.Ytahknjhphbpmiaa
