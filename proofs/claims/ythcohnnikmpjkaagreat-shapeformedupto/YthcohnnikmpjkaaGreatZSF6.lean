import Derived.Test.YthcohnnikmpjkaaGreatZSF5
namespace Go.Proofs.YthcohnnikmpjkaaGreat
open Go.RowKit Go.Shelf Go.Sort
set_option linter.unusedVariables false
set_option linter.unusedSimpArgs false
attribute [local go_sem] Oper.semAt_some


set_option maxRecDepth 100000 in
set_option maxHeartbeats 8000000 in
theorem w_objectsFormed (h : Nat) (b0 b1 b2 b3 : Bool) (no : Option Addr) (nn nc : Nat) (b5 : Bool) (xo : Option Addr) (nx xc : Nat) (ao : Option Addr) (NA ac : Nat) (oo : Option Addr) (NO oc : Nat) (w : World) (B : Nat) (hx : AskBx w B b0 b1 b2 b3 no nn nc b5 xo nx xc ao NA ac oo NO oc) (os : List OB) (hI : ObIn w h oo os) (hN : os.length = NO) (hc : NO ≤ oc) (z1 : NO ≤ 140737488355328) :
    Calls Tryz.prog 30 #[.pointer (some ⟨B, 0, none⟩)] w fun e w' => e = .returned (.bool (os.all loOk)) ∧ Below w.heap.size w w' := by
  have HX := Hid.mk hx
  have HI := Hid.mk hI
  have HN := Hid.mk hN
  obtain ⟨q0, q1, q2, q3, q4, q5, q6, q7, q8⟩ := (hx).nine
  simp only [Nat.zero_add] at q1 q2 q3 q4 q5 q6 q7 q8
  clear hx hI hN
  obtain ⟨R, hR⟩ : ∃ R, os.all loOk = R := ⟨_, rfl⟩
  have HR := Hid.mk hR
  rw [hR]
  clear hR
  go_enter Tryz.func30, Tryz.ntmps30
  go_wp2_with fail
  clear q0 q1 q2 q3 q4 q5 q6 q7 q8
  go_loopw [12] (fun i wr => ∃ k : Nat, k ≤ NO ∧ i = .int .i64 (k : Int) ∧ Hid (Below w.heap.size w wr) ∧ Hid ((os.take k).all loOk = true)) (fun i _ => NO - (intOf i).toNat)
  case atStart => exact ⟨0, Nat.zero_le _, rfl, Below.refl _ _, rfl⟩
  case round =>
    obtain ⟨k, hk, rfl, HB, HQ⟩ := hrel
    by_cases hlt : k < NO
    · have hl1 : (k : Int) < (NO : Int) := by omega
      have hl0 : (0 : Int) ≤ (k : Int) := by omega
      have hkl : k < os.length := by rw [HN.out]; exact hlt
      obtain ⟨b, off, hso, hbl, hrow⟩ := (HI.out.keep HB.out).row (by omega)
      subst hso
      obtain ⟨ko, kc, fo, fc, mo, mc, v0, v1, v2, v3, v4, v5, v6, v7, v8, ⟨g0, g1, g2⟩, hc9, hO⟩ := hrow k hkl
      have HU := Hid.mk (zall_up (f := loOk) hkl)
      have HNo : Hid (loOk os[k] = false → R = false) := fun hh => by rw [← HR.out]; exact zall_no hkl hh
      obtain ⟨o, ho⟩ : ∃ o, os[k] = o := ⟨_, rfl⟩
      rw [ho] at g0 g1 g2 hO HU HNo
      have HG : Hid (loOk o = (decide (o.fields.length = o.names.length) && (decide (o.must.length = o.names.length) && ((rK o.names o.names.length && oK o.names o.names.length) && (o.fields.zip o.must).all fun p => !(p.2 && p.1.never))))) := rfl
      have HRi := Hid.mk (fun (u : World) (hu : Below wr.heap.size wr u) => w_sRising ko o.names.length kc o.names u (hO.nm.keep hu) rfl hO.caps.1 hO.lens.1 hO.lens.2.2.2)
      have HO := Hid.mk hO
      obtain ⟨lk1, lk2, lk3⟩ := hO.caps
      obtain ⟨ls1, ls2, ls3, _⟩ := hO.lens
      obtain ⟨sa, sb, sc, sd, ⟨seo, sen, sec⟩, sf, ⟨sgo, sgn, sgc⟩, ⟨sio, sinn, sic⟩, ⟨sjo, sjn, sjc⟩, eshs⟩ := inT_shape hO.rest
      simp only [Value.agg.injEq, Array.mk.injEq, List.cons.injEq, and_true] at eshs
      obtain ⟨rfl, rfl, rfl, rfl, rfl, rfl, rfl, rfl, rfl⟩ := eshs
      obtain ⟨c0, c1, c2, c3, c4, c5, c6, c7, c8⟩ := hc9
      obtain ⟨K, hK⟩ : ∃ n, o.names.length = n := ⟨_, rfl⟩
      have HK := Hid.mk hK
      obtain ⟨F, hF⟩ : ∃ n, o.fields.length = n := ⟨_, rfl⟩
      have HF := Hid.mk hF
      obtain ⟨M, hM⟩ : ∃ n, o.must.length = n := ⟨_, rfl⟩
      have HM := Hid.mk hM
      rw [hK] at g0 HG HRi lk1 ls1
      rw [hF] at g1 HG lk2 ls2
      rw [hM] at g2 HG lk3 ls3
      generalize loOk o = lo at HG HU HNo
      obtain ⟨ri, hri⟩ : ∃ r, (rK o.names K && oK o.names K) = r := ⟨_, rfl⟩
      rw [hri] at HG HRi
      obtain ⟨X, hX⟩ : ∃ X, wr.heap.size = X := ⟨_, rfl⟩
      obtain ⟨V, hV⟩ : ∃ V, wr.alloc (.cells #[.slice ko K kc, .slice fo F fc, .slice mo M mc, .bool sa, .bool sb, .bool sc, .bool sd, .slice seo sen sec, .bool sf, .slice sgo sgn sgc, .slice sio sinn sic, .slice sjo sjn sjc] 62) = V := ⟨_, rfl⟩
      have hb1 : Below wr.heap.size wr V := by rw [← hV]; exact below1 wr _
      have HBV := Hid.mk hb1
      have HV := Hid.mk (HB.out.trans (hb1.mono HB.out.size))
      have HXl : Hid (X < V.heap.size) := by show _ < _; rw [← hV, ← hX]; simp
      have d0 : V.cell? ⟨X, 0, none⟩ = some (.slice ko K kc) := by rw [← hV, ← hX]; simp [go_sem]
      have d1 : V.cell? ⟨X, 1, none⟩ = some (.slice fo F fc) := by rw [← hV, ← hX]; simp [go_sem]
      have d2 : V.cell? ⟨X, 2, none⟩ = some (.slice mo M mc) := by rw [← hV, ← hX]; simp [go_sem]
      clear hrow hbl hkl hO hb1 hK hF hM hri ho
      by_cases l1 : F = K
      · subst l1
        by_cases l2 : M = F
        · subst l2
          cases ri with
          | false =>
            have HF' : Hid (R = false) := HNo.out (by rw [HG.out]; simp)
            go_wp2_with fail
            refine (HRi.out _ HBV.out).mono ?_
            rintro e u1 ⟨rfl, hq⟩
            have HV1 := Hid.mk (HV.out.trans (hq.mono HV.out.size))
            clear hq hV hX d0 d1 d2 g0 g1 g2 c0 c1 c2 c3 c4 c5 c6 c7 c8
            go_wp2_with fail
            go_ret
            exact ⟨by first | (rw [HF'.out]; rfl) | rw [HF'.out], HV1.out⟩
          | true =>
            obtain ⟨zs, hzs⟩ : ∃ zs, o.fields.zip o.must = zs := ⟨_, rfl⟩
            have HZL : Hid (zs.length = M) := by show _ = _; rw [← hzs, List.length_zip, HF.out, HM.out]; omega
            have HZ : Hid (∀ j, (hj : j < zs.length) → ∃ (h1 : j < o.fields.length) (h2 : j < o.must.length), zs[j] = (o.fields[j], o.must[j])) := by
              intro j hj
              subst hzs
              have := List.length_zip (l₁ := o.fields) (l₂ := o.must)
              exact ⟨by omega, by omega, by rw [List.getElem_zip]⟩
            have HG2 : Hid (lo = zs.all fun p => !(p.2 && p.1.never)) := by show _ = _; rw [HG.out, hzs]; simp
            clear hzs HG
            go_wp2_with fail
            refine (HRi.out _ HBV.out).mono ?_
            rintro e u1 ⟨rfl, hq⟩
            have HV1 := Hid.mk (HV.out.trans (hq.mono HV.out.size))
            have HW1 := Hid.mk (HBV.out.trans (hq.mono HBV.out.size))
            have HXl1 := Hid.mk (Nat.lt_of_lt_of_le HXl.out hq.size)
            have f1 := (hq.cell (p := ⟨_, _, _⟩) HXl.out).trans d1
            have f2 := (hq.cell (p := ⟨_, _, _⟩) HXl.out).trans d2
            clear hq hV hX d0 d1 d2 g0 g1 g2 c0 c1 c2 c3 c4 c5 c6 c7 c8
            go_wp2_with fail
            have HF2 := Hid.mk f2
            clear f1 f2
            go_loopw [41] (fun i u => ∃ j : Nat, j ≤ M ∧ i = .int .i64 (j : Int) ∧ Hid (Below wr.heap.size wr u) ∧ Hid (Below w.heap.size w u) ∧ Hid (X < u.heap.size) ∧ Hid (u.cell? ⟨X, 2, none⟩ = some (.slice mo M mc)) ∧ Hid ((zs.take j).all (fun p => !(p.2 && p.1.never)) = true)) (fun i _ => M - (intOf i).toNat)
            case atStart => exact ⟨0, Nat.zero_le _, rfl, HW1, HV1, HXl1, HF2, rfl⟩
            case round =>
              clear HW1 HV1 HXl1 HF2
              obtain ⟨j, hj, rfl, HWj, HVj, HXj, HFj, HQj⟩ := hrel
              have f2 := HFj.out
              by_cases hjt : j < M
              · have hj1 : (j : Int) < (M : Int) := by omega
                have hj0 : (0 : Int) ≤ (j : Int) := by omega
                have hjl : j < zs.length := by rw [HZL.out]; exact hjt
                obtain ⟨y1, y2, hz⟩ := HZ.out j hjl
                have hIk := HO.out.keep HWj.out
                obtain ⟨fb, foff, hfo, hfl, hfd⟩ := hIk.fd (by omega)
                subst hfo
                obtain ⟨e0, e1, e2, e3, e4, e5, e6, e7, e8, he9, het⟩ := hfd j y1
                obtain ⟨mb, moff, hmo, hml, hmd⟩ := hIk.ms.row (by omega)
                subst hmo
                have m0 := hmd j y2
                have HU2 : Hid ((zs.take (j + 1)).all (fun p => !(p.2 && p.1.never)) = !(o.must[j] && o.fields[j].never)) := by show _ = _; rw [zall_up hjl, HQj.out, hz]; rfl
                have HNo2 : Hid ((!(o.must[j] && o.fields[j].never)) = false → R = false) := fun hh => HNo.out (by rw [HG2.out]; exact zall_no hjl (by rw [hz]; exact hh))
                have HC := Hid.mk (fun (x : World) (hu : Below wr.heap.size wr x) => w_pNever h o.fields[j] _ x (het.keep hu))
                obtain ⟨ta, tb, tc, td, ⟨teo, ten, tec⟩, tf, ⟨tgo, tgn, tgc⟩, ⟨tio, tinn, tic⟩, ⟨tjo, tjn, tjc⟩, esht⟩ := inT_shape het
                simp only [Value.agg.injEq, Array.mk.injEq, List.cons.injEq, and_true] at esht
                obtain ⟨rfl, rfl, rfl, rfl, rfl, rfl, rfl, rfl, rfl⟩ := esht
                obtain ⟨q0, q1, q2, q3, q4, q5, q6, q7, q8⟩ := he9
                generalize o.fields[j].never = fv at HC HU2 HNo2
                generalize o.must[j] = fm at m0 HU2 HNo2
                obtain ⟨Y, hY⟩ : ∃ Y, wr.heap.size = Y := ⟨_, rfl⟩
                obtain ⟨U, hU⟩ : ∃ U, wr.alloc (.cells #[.bool ta, .bool tb, .bool tc, .bool td, .slice teo ten tec, .bool tf, .slice tgo tgn tgc, .slice tio tinn tic, .slice tjo tjn tjc] 27) = U := ⟨_, rfl⟩
                have hb2 : Below wr.heap.size wr U := by rw [← hU]; exact below1 wr _
                have HB2 := Hid.mk hb2
                have f2u := (hb2.cell (p := ⟨_, _, _⟩) HXj.out).trans f2
                have m0u := (hb2.cell (p := ⟨_, _, _⟩) hml).trans m0
                have d0 : U.cell? ⟨Y, 0, none⟩ = some (.bool ta) := by rw [← hU, ← hY]; simp [go_sem]
                have d1 : U.cell? ⟨Y, 1, none⟩ = some (.bool tb) := by rw [← hU, ← hY]; simp [go_sem]
                have d2 : U.cell? ⟨Y, 2, none⟩ = some (.bool tc) := by rw [← hU, ← hY]; simp [go_sem]
                have d3 : U.cell? ⟨Y, 3, none⟩ = some (.bool td) := by rw [← hU, ← hY]; simp [go_sem]
                have d4 : U.cell? ⟨Y, 4, none⟩ = some (.slice teo ten tec) := by rw [← hU, ← hY]; simp [go_sem]
                have d5 : U.cell? ⟨Y, 5, none⟩ = some (.bool tf) := by rw [← hU, ← hY]; simp [go_sem]
                have d6 : U.cell? ⟨Y, 6, none⟩ = some (.slice tgo tgn tgc) := by rw [← hU, ← hY]; simp [go_sem]
                have d7 : U.cell? ⟨Y, 7, none⟩ = some (.slice tio tinn tic) := by rw [← hU, ← hY]; simp [go_sem]
                have d8 : U.cell? ⟨Y, 8, none⟩ = some (.slice tjo tjn tjc) := by rw [← hU, ← hY]; simp [go_sem]
                have HWn := Hid.mk (HWj.out.trans (hb2.mono HWj.out.size))
                have HVn := Hid.mk (HVj.out.trans (hb2.mono HVj.out.size))
                have HXn := Hid.mk (Nat.lt_of_lt_of_le HXj.out hb2.size)
                have HFn := Hid.mk f2u
                clear hIk hfd het hmd y1 y2 hz hjl hb2 HQj
                cases fm with
                | false =>
                  have HU' : Hid ((zs.take (j + 1)).all (fun p => !(p.2 && p.1.never)) = true) := by show _ = _; rw [HU2.out]; rfl
                  go_wp2_with fail
                  go_roundw
                  case rel => exact ⟨j + 1, hjt, by go_num, HWn, HVn, HXn, HFn, HU'⟩
                  case measure => simp [intOf]; omega
                | true =>
                  cases fv with
                  | false =>
                    have HU' : Hid ((zs.take (j + 1)).all (fun p => !(p.2 && p.1.never)) = true) := by show _ = _; rw [HU2.out]; rfl
                    go_wp2_with fail
                    refine (HC.out _ HB2.out).mono ?_
                    rintro e u3 ⟨rfl, hq⟩
                    have HW3 := Hid.mk (HWn.out.trans (hq.mono HWn.out.size))
                    have HV3 := Hid.mk (HVn.out.trans (hq.mono HVn.out.size))
                    have HX3 := Hid.mk (Nat.lt_of_lt_of_le HXn.out hq.size)
                    have HF3 := Hid.mk ((hq.cell (p := ⟨_, _, _⟩) HXn.out).trans HFn.out)
                    clear hq
                    clear hU hY f2 f2u m0 m0u q0 q1 q2 q3 q4 q5 q6 q7 q8 d0 d1 d2 d3 d4 d5 d6 d7 d8
                    go_wp2_with fail
                    go_roundw
                    case rel => exact ⟨j + 1, hjt, by go_num, HW3, HV3, HX3, HF3, HU'⟩
                    case measure => simp [intOf]; omega
                  | true =>
                    have HF' : Hid (R = false) := HNo2.out (by rfl)
                    go_wp2_with fail
                    refine (HC.out _ HB2.out).mono ?_
                    rintro e u3 ⟨rfl, hq⟩
                    have HW3 := Hid.mk (HWn.out.trans (hq.mono HWn.out.size))
                    have HV3 := Hid.mk (HVn.out.trans (hq.mono HVn.out.size))
                    have HX3 := Hid.mk (Nat.lt_of_lt_of_le HXn.out hq.size)
                    have HF3 := Hid.mk ((hq.cell (p := ⟨_, _, _⟩) HXn.out).trans HFn.out)
                    clear hq
                    clear hU hY f2 f2u m0 m0u q0 q1 q2 q3 q4 q5 q6 q7 q8 d0 d1 d2 d3 d4 d5 d6 d7 d8
                    go_wp2_with fail
                    go_ret
                    exact ⟨by first | (rw [HF'.out]; rfl) | rw [HF'.out], HV3.out⟩
              · have hj1 : ¬ (j : Int) < (M : Int) := by omega
                have HU' : Hid ((os.take (k + 1)).all loOk = true) := by
                  have h1 := HQj.out
                  rw [List.take_of_length_le (by rw [HZL.out]; omega)] at h1
                  show _ = _
                  rw [HU.out, HQ.out, HG2.out, h1]; rfl
                go_wp2_with fail
                go_roundw
                case rel => exact ⟨k + 1, hlt, by go_num, HVj, HU'⟩
                case measure => simp [intOf]; omega
        · have l2i : ¬ (M : Int) = (F : Int) := by omega
          have HF' : Hid (R = false) := HNo.out (by rw [HG.out, decide_eq_false l2]; simp)
          go_wp2_with fail
          go_ret
          exact ⟨by first | (rw [HF'.out]; rfl) | rw [HF'.out], HV.out⟩
      · have l1i : ¬ (F : Int) = (K : Int) := by omega
        have HF' : Hid (R = false) := HNo.out (by rw [HG.out, decide_eq_false l1]; simp)
        go_wp2_with fail
        go_ret
        exact ⟨by first | (rw [HF'.out]; rfl) | rw [HF'.out], HV.out⟩
    · have hl1 : ¬ (k : Int) < (NO : Int) := by omega
      have HF' : Hid (R = true) := by show _ = _; rw [← HR.out, ← HQ.out, List.take_of_length_le (by rw [HN.out]; omega)]
      go_wp2_with fail
      go_ret
      exact ⟨by first | (rw [HF'.out]; rfl) | rw [HF'.out], HB.out⟩
end Go.Proofs.YthcohnnikmpjkaaGreat
