import Derived.Test.YtahknjhphbpmiaaZCM4
namespace Go.Proofs.Ytahknjhphbpmiaa
open Go.RowKit Go.Shelf Go.Sort
set_option linter.unusedVariables false
set_option linter.unusedSimpArgs false
attribute [local go_sem] Oper.semAt_some


set_option maxRecDepth 100000 in
set_option maxHeartbeats 6400000 in
theorem w_cfArr (h : Nat) (ih : FcA h) (ao : Option Addr) (M acap : Nat) (xs : List (AR)) (bo : Option Addr) (N bcap : Nat) (ys : List (AR)) (w : World) (ha : ArIn w h ao xs) (hb : ArIn w h bo ys) (hM : xs.length = M) (hN : ys.length = N) (hac : M ≤ acap) (hbc : N ≤ bcap) (hM2 : M ≤ 140737488355328) (hN2 : N ≤ 140737488355328) :
    Calls Try.prog 68 #[.slice ao M acap, .slice bo N bcap, .func (.func 69) #[] #[]] w fun e w' => e = .returned (.int .i64 (listC (arC (cmpTy h)) xs ys)) ∧ Below w.heap.size w w' := by
  have HA := Hid.mk ha
  have HB := Hid.mk hb
  have HM := Hid.mk hM
  have HN := Hid.mk hN
  have HIh := Hid.mk ih
  clear ih
  clear ha hb hM hN
  go_enter Try.func68, Try.ntmps68
  go_wp2_with fail
  go_loopw [13] (fun i wr => ∃ k : Nat, k ≤ M ∧ k ≤ N ∧ i = .int .i64 (k : Int) ∧ Hid (Below w.heap.size w wr) ∧ Hid (listC (arC (cmpTy h)) xs ys = listC (arC (cmpTy h)) (xs.drop k) (ys.drop k))) (fun i _ => M - (intOf i).toNat)
  case atStart => exact ⟨0, Nat.zero_le _, Nat.zero_le _, rfl, Below.refl _ _, rfl⟩
  case round =>
    obtain ⟨k, hk, hk2, rfl, HBw, HQ⟩ := hrel
    by_cases hlt : k < M
    · have hl1 : (k : Int) < (M : Int) := by omega
      have hka : k < xs.length := by rw [HM.out]; exact hlt
      obtain ⟨b, off, hko, hbl, hrow⟩ := (HA.out.keep HBw.out).row (by omega)
      subst hko
      obtain ⟨u0, u1, u2, u3, u4, u5, u6, u7, u8, ⟨c0, c1, c2, c3, c4, c5, c6, c7, c8⟩, c9, c10, ht⟩ := hrow k hka
      obtain ⟨sa, sb, sc, sd, ⟨seo, sen, sec⟩, sf, ⟨sgo, sgn, sgc⟩, ⟨sio, sinn, sic⟩, ⟨sjo, sjn, sjc⟩, eshs⟩ := inT_shape ht
      simp only [Value.agg.injEq, Array.mk.injEq, List.cons.injEq, and_true] at eshs
      obtain ⟨rfl, rfl, rfl, rfl, rfl, rfl, rfl, rfl, rfl⟩ := eshs
      by_cases hlt2 : k < N
      · have hl2 : ¬ (N : Int) ≤ (k : Int) := by omega
        have hl3 : (k : Int) < (N : Int) := by omega
        have hkb : k < ys.length := by rw [HN.out]; exact hlt2
        obtain ⟨b2, off2, hko2, hbl2, hrow2⟩ := (HB.out.keep HBw.out).row (by omega)
        subst hko2
        obtain ⟨v0, v1, v2, v3, v4, v5, v6, v7, v8, ⟨d0, d1, d2, d3, d4, d5, d6, d7, d8⟩, d9, d10, hu⟩ := hrow2 k hkb
        obtain ⟨ta, tb, tc, td, ⟨teo, ten, tec⟩, tf, ⟨tgo, tgn, tgc⟩, ⟨tio, tinn, tic⟩, ⟨tjo, tjn, tjc⟩, esht⟩ := inT_shape hu
        simp only [Value.agg.injEq, Array.mk.injEq, List.cons.injEq, and_true] at esht
        obtain ⟨rfl, rfl, rfl, rfl, rfl, rfl, rfl, rfl, rfl⟩ := esht
        have HBx := Hid.mk (below2 wr (.cells #[.bool sa, .bool sb, .bool sc, .bool sd, .slice seo sen sec, .bool sf, .slice sgo sgn sgc, .slice sio sinn sic, .slice sjo sjn sjc, .int .i64 xs[k].min, .int .i64 xs[k].max] 63) (.cells #[.bool ta, .bool tb, .bool tc, .bool td, .slice teo ten tec, .bool tf, .slice tgo tgn tgc, .slice tio tinn tic, .slice tjo tjn tjc, .int .i64 ys[k].min, .int .i64 ys[k].max] 63))
        have HS := Hid.mk (listC_step (c := (arC (cmpTy h))) hka hkb)
        have HC := Hid.mk (HIh.out xs[k] ys[k] _ _ _ _ _ _ _ _ _ _ _ _ _ _ _ _ _ _ ((wr.alloc (.cells #[.bool sa, .bool sb, .bool sc, .bool sd, .slice seo sen sec, .bool sf, .slice sgo sgn sgc, .slice sio sinn sic, .slice sjo sjn sjc, .int .i64 xs[k].min, .int .i64 xs[k].max] 63)).alloc (.cells #[.bool ta, .bool tb, .bool tc, .bool td, .slice teo ten tec, .bool tf, .slice tgo tgn tgc, .slice tio tinn tic, .slice tjo tjn tjc, .int .i64 ys[k].min, .int .i64 ys[k].max] 63)) (ht.keep HBx.out) (hu.keep HBx.out))
        have e0 : ∀ j o, (wr.alloc o).cell? ⟨b2, j, none⟩ = wr.cell? ⟨b2, j, none⟩ := fun j o => (below1 wr o).cell (p := ⟨b2, j, none⟩) hbl2
        have d0' := fun o => (e0 _ o).trans d0
        have d1' := fun o => (e0 _ o).trans d1
        have d2' := fun o => (e0 _ o).trans d2
        have d3' := fun o => (e0 _ o).trans d3
        have d4' := fun o => (e0 _ o).trans d4
        have d5' := fun o => (e0 _ o).trans d5
        have d6' := fun o => (e0 _ o).trans d6
        have d7' := fun o => (e0 _ o).trans d7
        have d8' := fun o => (e0 _ o).trans d8
        have d9' := fun o => (e0 _ o).trans d9
        have d10' := fun o => (e0 _ o).trans d10
        generalize (arC (cmpTy h)) xs[k] ys[k] = c at *
        generalize xs[k].min = g0 at *
        generalize xs[k].max = g1 at *
        generalize ys[k].min = g2 at *
        generalize ys[k].max = g3 at *
        clear hrow hrow2 hbl hbl2 hka hkb ht hu e0 d0 d1 d2 d3 d4 d5 d6 d7 d8 d9 d10
        by_cases h0 : c = 0
        · have HN2 : Hid (listC (arC (cmpTy h)) xs ys = listC (arC (cmpTy h)) (xs.drop (k + 1)) (ys.drop (k + 1))) := by show _ = _; rw [HQ.out, HS.out, if_pos h0]
          subst h0
          clear HS
          go_wp2_with fail
          refine HC.out.mono ?_
          rintro e w2 ⟨rfl, hb2⟩
          have HB2 := Hid.mk (HBw.out.trans ((below_more HBx.out hb2).mono HBw.out.size))
          clear hb2 c0 c1 c2 c3 c4 c5 c6 c7 c8 c9 c10 d0' d1' d2' d3' d4' d5' d6' d7' d8' d9' d10'
          go_wp2_with fail
          go_roundw
          case rel => exact ⟨k + 1, hlt, hlt2, by go_num, HB2, HN2⟩
          case measure => simp [intOf]; omega
        · have HN2 : Hid (listC (arC (cmpTy h)) xs ys = c) := by show _ = _; rw [HQ.out, HS.out, if_neg h0]
          have h0' : (c != 0) = true := by simpa using h0
          clear h0 HS
          go_wp2_with fail
          refine HC.out.mono ?_
          rintro e w2 ⟨rfl, hb2⟩
          have HB2 := Hid.mk (HBw.out.trans ((below_more HBx.out hb2).mono HBw.out.size))
          clear hb2 c0 c1 c2 c3 c4 c5 c6 c7 c8 c9 c10 d0' d1' d2' d3' d4' d5' d6' d7' d8' d9' d10'
          go_wp2_with fail
          go_ret
          exact ⟨by rw [HN2.out]; rfl, HB2.out⟩
      · have hl2 : (N : Int) ≤ (k : Int) := by omega
        have HF : Hid (listC (arC (cmpTy h)) xs ys = 1) := by show _ = _; rw [HQ.out]; exact listC_more hka (by rw [HN.out]; omega)
        have HBx := Hid.mk (HBw.out.trans ((below1 wr (.cells #[.bool sa, .bool sb, .bool sc, .bool sd, .slice seo sen sec, .bool sf, .slice sgo sgn sgc, .slice sio sinn sic, .slice sjo sjn sjc, .int .i64 xs[k].min, .int .i64 xs[k].max] 63)).mono HBw.out.size))
        clear hrow hbl ht
        generalize xs[k].min = g0 at *
        generalize xs[k].max = g1 at *
        clear hka
        go_wp2_with fail
        go_ret
        exact ⟨by rw [HF.out]; rfl, HBx.out⟩
    · have hl1 : ¬ (k : Int) < (M : Int) := by omega
      by_cases hlt2 : M < N
      · have hl2 : (M : Int) < (N : Int) := by omega
        have HF : Hid (listC (arC (cmpTy h)) xs ys = -1) := by show _ = _; rw [HQ.out]; exact listC_less (by rw [HM.out]; omega) (by rw [HN.out]; omega)
        go_wp2_with fail
        go_ret
        exact ⟨by rw [HF.out]; rfl, HBw.out⟩
      · have hl2 : ¬ (M : Int) < (N : Int) := by omega
        have HF : Hid (listC (arC (cmpTy h)) xs ys = 0) := by show _ = _; rw [HQ.out]; exact listC_even (by rw [HM.out]; omega) (by rw [HN.out]; omega)
        go_wp2_with fail
        go_ret
        exact ⟨by rw [HF.out]; rfl, HBw.out⟩
end Go.Proofs.Ytahknjhphbpmiaa
