import Derived.Test.YthcohnnikmpjkaaGreatZSF4
namespace Go.Proofs.YthcohnnikmpjkaaGreat
open Go.RowKit Go.Shelf Go.Sort
set_option linter.unusedVariables false
set_option linter.unusedSimpArgs false
attribute [local go_sem] Oper.semAt_some

theorem sp_all (ps : List (ByteArray × ByteArray)) : (ps.all spOk && decide (ps.length ≤ 1)) = spB ps := by
  match ps with
  | [] => rfl
  | [p] => simp [spB]
  | _ :: _ :: _ => simp [spB]
theorem sp_cmp {lo hi : ByteArray} (h1 : bndB lo = true) (h2 : bndB hi = true) : (lo.size == 0 || (hi.size == 0 || decide (numC lo hi ≤ 0))) = !(decide (Pl.errN lo.data.toList hi.data.toList = 0) && decide (0 < Pl.cmpN lo.data.toList hi.data.toList)) := by
  have fn : ∀ {s : ByteArray}, s.size = 0 → Pl.formed s.data.toList = false := fun {s} h => by
    have : s.data.toList = [] := List.eq_nil_of_length_eq_zero (by rw [Array.length_toList]; exact h)
    rw [this]; rfl
  unfold Pl.errN
  by_cases e1 : lo.size = 0
  · rw [fn e1, e1]; rfl
  · by_cases e2 : hi.size = 0
    · rw [fn e2, e2, Bool.and_false]; simp
    · have f1 : Pl.formed lo.data.toList = true := by simpa [bndB, e1] using h1
      have f2 : Pl.formed hi.data.toList = true := by simpa [bndB, e2] using h2
      rw [f1, f2, beq_false_of_ne e1, beq_false_of_ne e2]
      show decide (Pl.cmpN lo.data.toList hi.data.toList ≤ 0) = _
      by_cases hc : 0 < Pl.cmpN lo.data.toList hi.data.toList
      · rw [decide_eq_true hc, decide_eq_false (by omega)]; rfl
      · rw [decide_eq_false hc, decide_eq_true (by omega)]; rfl

set_option maxRecDepth 100000 in
set_option maxHeartbeats 6400000 in
theorem w_numsFormed (b0 b1 b2 b3 : Bool) (no : Option Addr) (nn nc : Nat) (b5 : Bool) (xo : Option Addr) (nx xc : Nat) (ao : Option Addr) (NA ac : Nat) (oo : Option Addr) (NO oc : Nat) (w : World) (B : Nat) (hx : AskBx w B b0 b1 b2 b3 no nn nc b5 xo nx xc ao NA ac oo NO oc) (ps : List (ByteArray × ByteArray)) (hI : SpIn w no ps) (hN : ps.length = nn) (hc : nn ≤ nc) (z1 : nn ≤ 140737488355328) (hs : ∀ p ∈ ps, p.1.size ≤ 140737488355328 ∧ p.2.size ≤ 140737488355328) :
    Calls Tryz.prog 27 #[.pointer (some ⟨B, 0, none⟩)] w fun e w' => e = .returned (.bool (spB ps)) ∧ Below w.heap.size w w' := by
  rw [← sp_all, hN]
  have HX := Hid.mk hx
  have HI := Hid.mk hI
  have HN := Hid.mk hN
  have HS := Hid.mk hs
  obtain ⟨q0, q1, q2, q3, q4, q5, q6, q7, q8⟩ := (hx).nine
  simp only [Nat.zero_add] at q1 q2 q3 q4 q5 q6 q7 q8
  clear hx hI hN hs
  go_enter Tryz.func27, Tryz.ntmps27
  go_wp2_with fail
  clear q0 q1 q2 q3 q4 q5 q6 q7 q8
  go_loopw [12] (fun i wr => ∃ k : Nat, k ≤ nn ∧ i = .int .i64 (k : Int) ∧ Hid (Below w.heap.size w wr) ∧ Hid ((ps.take k).all spOk = true)) (fun i _ => nn - (intOf i).toNat)
  case atStart => exact ⟨0, Nat.zero_le _, rfl, Below.refl _ _, rfl⟩
  case round =>
    obtain ⟨k, hk, rfl, HB, HQ⟩ := hrel
    by_cases hlt : k < nn
    · have hl1 : (k : Int) < (nn : Int) := by omega
      have hl0 : (0 : Int) ≤ (k : Int) := by omega
      have hkl : k < ps.length := by rw [HN.out]; exact hlt
      obtain ⟨b, off, hso, hbl, hrow⟩ := (HI.out.keep HB.out).row (by omega)
      subst hso
      obtain ⟨c0, c1⟩ := hrow k hkl
      obtain ⟨y1, y2⟩ := HS.out _ (List.getElem_mem hkl)
      have HU := Hid.mk (zall_up (f := spOk) hkl)
      have HNo := Hid.mk (fun hh => zall_no (f := spOk) hkl hh)
      obtain ⟨p, hp⟩ : ∃ p, ps[k] = p := ⟨_, rfl⟩
      rw [hp] at c0 c1 y1 y2 HU HNo
      obtain ⟨lo, hi⟩ := p
      dsimp only at c0 c1 y1 y2
      have HG : Hid (spOk (lo, hi) = (bndB lo && (bndB hi && (lo.size == 0 || (hi.size == 0 || decide (numC lo hi ≤ 0)))))) := rfl
      have C0 := Hid.mk (fun u => w_pbound lo u y1)
      have C1 := Hid.mk (fun u => w_pbound hi u y2)
      have C2 := Hid.mk (fun u => w_Cmp lo hi u (by unfold maxLen; omega) (by unfold maxLen; omega))
      have HE := Hid.mk (fun h1 h2 => sp_cmp (lo := lo) (hi := hi) h1 h2)
      obtain ⟨X, hX⟩ : ∃ X, wr.heap.size = X := ⟨_, rfl⟩
      obtain ⟨V, hV⟩ : ∃ V, wr.alloc (.cells #[.string lo, .string hi] 39) = V := ⟨_, rfl⟩
      have HV : Hid (Below w.heap.size w V) := by rw [← hV]; exact HB.out.trans ((below1 wr _).mono HB.out.size)
      have HXl : Hid (X < V.heap.size) := by show _ < _; rw [← hV, ← hX]; simp
      have d0 : V.cell? ⟨X, 0, none⟩ = some (.string lo) := by rw [← hV, ← hX]; simp [go_sem]
      have d1 : V.cell? ⟨X, 1, none⟩ = some (.string hi) := by rw [← hV, ← hX]; simp [go_sem]
      clear hrow hbl hkl hp y1 y2
      cases e0 : bndB lo with
      | false =>
        have HF' : Hid ((ps.all spOk && decide (nn ≤ 1)) = false) := by show _ = _; rw [HNo.out (by rw [HG.out, e0]; rfl), Bool.false_and]
        rw [e0] at C0
        go_wp2_with fail
        refine (C0.out _).mono ?_
        rintro e u1 ⟨rfl, hq⟩
        have HV1 := Hid.mk (HV.out.trans (hq.mono HV.out.size))
        have HXl1 := Hid.mk (Nat.lt_of_lt_of_le HXl.out hq.size)
        have f0 := (hq.cell (p := ⟨_, _, _⟩) HXl.out).trans d0
        have f1 := (hq.cell (p := ⟨_, _, _⟩) HXl.out).trans d1
        clear hq d0 d1 c0 c1 hV hX
        have d0 := f0
        have d1 := f1
        clear f0 f1
        go_wp2_with fail
        go_ret
        exact ⟨by first | (rw [HF'.out]; rfl) | rw [HF'.out], HV1.out⟩
      | true =>
        cases e1 : bndB hi with
        | false =>
          have HF' : Hid ((ps.all spOk && decide (nn ≤ 1)) = false) := by show _ = _; rw [HNo.out (by rw [HG.out, e0, e1]; rfl), Bool.false_and]
          rw [e0] at C0
          rw [e1] at C1
          go_wp2_with fail
          refine (C0.out _).mono ?_
          rintro e u1 ⟨rfl, hq⟩
          have HV1 := Hid.mk (HV.out.trans (hq.mono HV.out.size))
          have HXl1 := Hid.mk (Nat.lt_of_lt_of_le HXl.out hq.size)
          have f0 := (hq.cell (p := ⟨_, _, _⟩) HXl.out).trans d0
          have f1 := (hq.cell (p := ⟨_, _, _⟩) HXl.out).trans d1
          clear hq d0 d1 c0 c1 hV hX
          have d0 := f0
          have d1 := f1
          clear f0 f1
          go_wp2_with fail
          refine (C1.out _).mono ?_
          rintro e u2 ⟨rfl, hq⟩
          have HV2 := Hid.mk (HV1.out.trans (hq.mono HV1.out.size))
          have HXl2 := Hid.mk (Nat.lt_of_lt_of_le HXl1.out hq.size)
          have f0 := (hq.cell (p := ⟨_, _, _⟩) HXl1.out).trans d0
          have f1 := (hq.cell (p := ⟨_, _, _⟩) HXl1.out).trans d1
          clear hq d0 d1
          have d0 := f0
          have d1 := f1
          clear f0 f1
          go_wp2_with fail
          go_ret
          exact ⟨by first | (rw [HF'.out]; rfl) | rw [HF'.out], HV2.out⟩
        | true =>
          have HE2 : Hid (spOk (lo, hi) = !(decide (Pl.errN lo.data.toList hi.data.toList = 0) && decide (0 < Pl.cmpN lo.data.toList hi.data.toList))) := by show _ = _; rw [HG.out, e0, e1, HE.out e0 e1]; rfl
          generalize Pl.errN lo.data.toList hi.data.toList = er at C2 HE2
          generalize Pl.cmpN lo.data.toList hi.data.toList = cc at C2 HE2
          rw [e0] at C0
          rw [e1] at C1
          clear e0 e1 HE HG
          by_cases h0 : er = 0
          · by_cases h1 : 0 < cc
            · have HF' : Hid ((ps.all spOk && decide (nn ≤ 1)) = false) := by show _ = _; rw [HNo.out (by rw [HE2.out, decide_eq_true h0, decide_eq_true h1]; rfl), Bool.false_and]
              subst h0
              go_wp2_with fail
              refine (C0.out _).mono ?_
              rintro e u1 ⟨rfl, hq⟩
              have HV1 := Hid.mk (HV.out.trans (hq.mono HV.out.size))
              have HXl1 := Hid.mk (Nat.lt_of_lt_of_le HXl.out hq.size)
              have f0 := (hq.cell (p := ⟨_, _, _⟩) HXl.out).trans d0
              have f1 := (hq.cell (p := ⟨_, _, _⟩) HXl.out).trans d1
              clear hq d0 d1 c0 c1 hV hX
              have d0 := f0
              have d1 := f1
              clear f0 f1
              go_wp2_with fail
              refine (C1.out _).mono ?_
              rintro e u2 ⟨rfl, hq⟩
              have HV2 := Hid.mk (HV1.out.trans (hq.mono HV1.out.size))
              have HXl2 := Hid.mk (Nat.lt_of_lt_of_le HXl1.out hq.size)
              have f0 := (hq.cell (p := ⟨_, _, _⟩) HXl1.out).trans d0
              have f1 := (hq.cell (p := ⟨_, _, _⟩) HXl1.out).trans d1
              clear hq d0 d1
              have d0 := f0
              have d1 := f1
              clear f0 f1
              go_wp2_with fail
              refine (C2.out _).mono ?_
              rintro e u3 ⟨rfl, hq⟩
              have HV3 := Hid.mk (HV2.out.trans (hq.mono HV2.out.size))
              have HXl3 := Hid.mk (Nat.lt_of_lt_of_le HXl2.out hq.size)
              have f0 := (hq.cell (p := ⟨_, _, _⟩) HXl2.out).trans d0
              have f1 := (hq.cell (p := ⟨_, _, _⟩) HXl2.out).trans d1
              clear hq d0 d1
              have d0 := f0
              have d1 := f1
              clear f0 f1
              go_wp2_with fail
              go_ret
              exact ⟨by first | (rw [HF'.out]; rfl) | rw [HF'.out], HV3.out⟩
            · have HU' : Hid ((ps.take (k + 1)).all spOk = true) := by show _ = _; rw [HU.out, HQ.out, HE2.out, decide_eq_true h0, decide_eq_false h1]; rfl
              subst h0
              go_wp2_with fail
              refine (C0.out _).mono ?_
              rintro e u1 ⟨rfl, hq⟩
              have HV1 := Hid.mk (HV.out.trans (hq.mono HV.out.size))
              have HXl1 := Hid.mk (Nat.lt_of_lt_of_le HXl.out hq.size)
              have f0 := (hq.cell (p := ⟨_, _, _⟩) HXl.out).trans d0
              have f1 := (hq.cell (p := ⟨_, _, _⟩) HXl.out).trans d1
              clear hq d0 d1 c0 c1 hV hX
              have d0 := f0
              have d1 := f1
              clear f0 f1
              go_wp2_with fail
              refine (C1.out _).mono ?_
              rintro e u2 ⟨rfl, hq⟩
              have HV2 := Hid.mk (HV1.out.trans (hq.mono HV1.out.size))
              have HXl2 := Hid.mk (Nat.lt_of_lt_of_le HXl1.out hq.size)
              have f0 := (hq.cell (p := ⟨_, _, _⟩) HXl1.out).trans d0
              have f1 := (hq.cell (p := ⟨_, _, _⟩) HXl1.out).trans d1
              clear hq d0 d1
              have d0 := f0
              have d1 := f1
              clear f0 f1
              go_wp2_with fail
              refine (C2.out _).mono ?_
              rintro e u3 ⟨rfl, hq⟩
              have HV3 := Hid.mk (HV2.out.trans (hq.mono HV2.out.size))
              have HXl3 := Hid.mk (Nat.lt_of_lt_of_le HXl2.out hq.size)
              have f0 := (hq.cell (p := ⟨_, _, _⟩) HXl2.out).trans d0
              have f1 := (hq.cell (p := ⟨_, _, _⟩) HXl2.out).trans d1
              clear hq d0 d1
              have d0 := f0
              have d1 := f1
              clear f0 f1
              go_wp2_with fail
              go_roundw
              case rel => exact ⟨k + 1, hlt, by go_num, HV3, HU'⟩
              case measure => simp [intOf]; omega
          · have HU' : Hid ((ps.take (k + 1)).all spOk = true) := by show _ = _; rw [HU.out, HQ.out, HE2.out, decide_eq_false h0]; rfl
            have h0b : (er == 0) = false := by simpa using h0
            go_wp2_with fail
            refine (C0.out _).mono ?_
            rintro e u1 ⟨rfl, hq⟩
            have HV1 := Hid.mk (HV.out.trans (hq.mono HV.out.size))
            have HXl1 := Hid.mk (Nat.lt_of_lt_of_le HXl.out hq.size)
            have f0 := (hq.cell (p := ⟨_, _, _⟩) HXl.out).trans d0
            have f1 := (hq.cell (p := ⟨_, _, _⟩) HXl.out).trans d1
            clear hq d0 d1 c0 c1 hV hX
            have d0 := f0
            have d1 := f1
            clear f0 f1
            go_wp2_with fail
            refine (C1.out _).mono ?_
            rintro e u2 ⟨rfl, hq⟩
            have HV2 := Hid.mk (HV1.out.trans (hq.mono HV1.out.size))
            have HXl2 := Hid.mk (Nat.lt_of_lt_of_le HXl1.out hq.size)
            have f0 := (hq.cell (p := ⟨_, _, _⟩) HXl1.out).trans d0
            have f1 := (hq.cell (p := ⟨_, _, _⟩) HXl1.out).trans d1
            clear hq d0 d1
            have d0 := f0
            have d1 := f1
            clear f0 f1
            go_wp2_with fail
            refine (C2.out _).mono ?_
            rintro e u3 ⟨rfl, hq⟩
            have HV3 := Hid.mk (HV2.out.trans (hq.mono HV2.out.size))
            have HXl3 := Hid.mk (Nat.lt_of_lt_of_le HXl2.out hq.size)
            have f0 := (hq.cell (p := ⟨_, _, _⟩) HXl2.out).trans d0
            have f1 := (hq.cell (p := ⟨_, _, _⟩) HXl2.out).trans d1
            clear hq d0 d1
            have d0 := f0
            have d1 := f1
            clear f0 f1
            go_wp2_with fail
            go_roundw
            case rel => exact ⟨k + 1, hlt, by go_num, HV3, HU'⟩
            case measure => simp [intOf]; omega
    · have hl1 : ¬ (k : Int) < (nn : Int) := by omega
      have HA : Hid (ps.all spOk = true) := by show _ = _; rw [← HQ.out, List.take_of_length_le (by rw [HN.out]; omega)]
      obtain ⟨q0, q1, q2, q3, q4, q5, q6, q7, q8⟩ := (HX.out.keep HB.out).nine
      simp only [Nat.zero_add] at q1 q2 q3 q4 q5 q6 q7 q8
      by_cases h1 : nn ≤ 1
      · have h1i : (nn : Int) ≤ 1 := by omega
        have HD := Hid.mk (decide_eq_true h1)
        clear h1
        go_wp2_with fail
        go_ret
        exact ⟨by first | (rw [HA.out, HD.out]; rfl) | (rw [HA.out]; rfl) | (simp [HA.out, HD.out]; done), HB.out⟩
      · have h1i : ¬ (nn : Int) ≤ 1 := by omega
        have HD := Hid.mk (decide_eq_false h1)
        clear h1
        go_wp2_with fail
        go_ret
        exact ⟨by first | (rw [HA.out, HD.out]; rfl) | (rw [HA.out]; rfl) | (simp [HA.out, HD.out]; done), HB.out⟩

set_option maxRecDepth 100000 in
set_option maxHeartbeats 6400000 in
theorem w_arraysFormed (h : Nat) (b0 b1 b2 b3 : Bool) (no : Option Addr) (nn nc : Nat) (b5 : Bool) (xo : Option Addr) (nx xc : Nat) (ao : Option Addr) (NA ac : Nat) (oo : Option Addr) (NO oc : Nat) (w : World) (B : Nat) (hx : AskBx w B b0 b1 b2 b3 no nn nc b5 xo nx xc ao NA ac oo NO oc) (rs : List AR) (hI : ArIn w h ao rs) (hN : rs.length = NA) (hc : NA ≤ ac) (z1 : NA ≤ 140737488355328) :
    Calls Tryz.prog 29 #[.pointer (some ⟨B, 0, none⟩)] w fun e w' => e = .returned (.bool (rs.all laOk && decide (NA ≤ 1))) ∧ Below w.heap.size w w' := by
  have HX := Hid.mk hx
  have HI := Hid.mk hI
  have HN := Hid.mk hN
  obtain ⟨q0, q1, q2, q3, q4, q5, q6, q7, q8⟩ := (hx).nine
  simp only [Nat.zero_add] at q1 q2 q3 q4 q5 q6 q7 q8
  clear hx hI hN
  go_enter Tryz.func29, Tryz.ntmps29
  go_wp2_with fail
  clear q0 q1 q2 q3 q4 q5 q6 q7 q8
  go_loopw [11] (fun i wr => ∃ k : Nat, k ≤ NA ∧ i = .int .i64 (k : Int) ∧ Hid (Below w.heap.size w wr) ∧ Hid ((rs.take k).all laOk = true)) (fun i _ => NA - (intOf i).toNat)
  case atStart => exact ⟨0, Nat.zero_le _, rfl, Below.refl _ _, rfl⟩
  case round =>
    obtain ⟨k, hk, rfl, HB, HQ⟩ := hrel
    by_cases hlt : k < NA
    · have hl1 : (k : Int) < (NA : Int) := by omega
      have hl0 : (0 : Int) ≤ (k : Int) := by omega
      have hkl : k < rs.length := by rw [HN.out]; exact hlt
      obtain ⟨b, off, hso, hbl, hrow⟩ := (HI.out.keep HB.out).row (by omega)
      subst hso
      obtain ⟨v0, v1, v2, v3, v4, v5, v6, v7, v8, hc9, m0, m1, hct⟩ := hrow k hkl
      have HU := Hid.mk (zall_up (f := laOk) hkl)
      have HNo := Hid.mk (fun hh => zall_no (f := laOk) hkl hh)
      have HG : Hid (laOk rs[k] = !(decide (rs[k].min < 0) || !(decide (rs[k].max = -1) || decide (rs[k].min ≤ rs[k].max)) || (rs[k].item.never != decide (rs[k].max = 0)))) := rfl
      have HC := Hid.mk (fun (u : World) (hu : Below wr.heap.size wr u) => w_pNever h rs[k].item _ u (hct.keep hu))
      obtain ⟨sa, sb, sc, sd, ⟨seo, sen, sec⟩, sf, ⟨sgo, sgn, sgc⟩, ⟨sio, sinn, sic⟩, ⟨sjo, sjn, sjc⟩, eshs⟩ := inT_shape hct
      simp only [Value.agg.injEq, Array.mk.injEq, List.cons.injEq, and_true] at eshs
      obtain ⟨rfl, rfl, rfl, rfl, rfl, rfl, rfl, rfl, rfl⟩ := eshs
      obtain ⟨c0, c1, c2, c3, c4, c5, c6, c7, c8⟩ := hc9
      generalize laOk rs[k] = la at HG HU HNo
      generalize rs[k].item.never = g at HC HG
      generalize rs[k].min = mn at *
      generalize rs[k].max = mx at *
      obtain ⟨X, hX⟩ : ∃ X, wr.heap.size = X := ⟨_, rfl⟩
      obtain ⟨V, hV⟩ : ∃ V, wr.alloc (.cells #[.bool sa, .bool sb, .bool sc, .bool sd, .slice seo sen sec, .bool sf, .slice sgo sgn sgc, .slice sio sinn sic, .slice sjo sjn sjc, .int .i64 mn, .int .i64 mx] 58) = V := ⟨_, rfl⟩
      have hb1 : Below wr.heap.size wr V := by rw [← hV]; exact below1 wr _
      have HV := Hid.mk (HB.out.trans (hb1.mono HB.out.size))
      have d0 : V.cell? ⟨X, 0, none⟩ = some (.bool sa) := by rw [← hV, ← hX]; simp [go_sem]
      have d1 : V.cell? ⟨X, 1, none⟩ = some (.bool sb) := by rw [← hV, ← hX]; simp [go_sem]
      have d2 : V.cell? ⟨X, 2, none⟩ = some (.bool sc) := by rw [← hV, ← hX]; simp [go_sem]
      have d3 : V.cell? ⟨X, 3, none⟩ = some (.bool sd) := by rw [← hV, ← hX]; simp [go_sem]
      have d4 : V.cell? ⟨X, 4, none⟩ = some (.slice seo sen sec) := by rw [← hV, ← hX]; simp [go_sem]
      have d5 : V.cell? ⟨X, 5, none⟩ = some (.bool sf) := by rw [← hV, ← hX]; simp [go_sem]
      have d6 : V.cell? ⟨X, 6, none⟩ = some (.slice sgo sgn sgc) := by rw [← hV, ← hX]; simp [go_sem]
      have d7 : V.cell? ⟨X, 7, none⟩ = some (.slice sio sinn sic) := by rw [← hV, ← hX]; simp [go_sem]
      have d8 : V.cell? ⟨X, 8, none⟩ = some (.slice sjo sjn sjc) := by rw [← hV, ← hX]; simp [go_sem]
      have d9 : V.cell? ⟨X, 9, none⟩ = some (.int .i64 mn) := by rw [← hV, ← hX]; simp [go_sem]
      have d10 : V.cell? ⟨X, 10, none⟩ = some (.int .i64 mx) := by rw [← hV, ← hX]; simp [go_sem]
      have HC2 := Hid.mk (fun (d : Nat) (os : Array Obj) => HC.out (grow (redrawn V d) os) (hb1.trans ((below_regrown V d os).mono hb1.size)))
      clear hrow hbl hkl hct hb1 HC
      have D0 := fun d os => cell_regrown d0 d os
      have D1 := fun d os => cell_regrown d1 d os
      have D2 := fun d os => cell_regrown d2 d os
      have D3 := fun d os => cell_regrown d3 d os
      have D4 := fun d os => cell_regrown d4 d os
      have D5 := fun d os => cell_regrown d5 d os
      have D6 := fun d os => cell_regrown d6 d os
      have D7 := fun d os => cell_regrown d7 d os
      have D8 := fun d os => cell_regrown d8 d os
      have D9 := fun d os => cell_regrown d9 d os
      have D10 := fun d os => cell_regrown d10 d os
      by_cases k6 : mx = -1
      · subst k6
        have k6d : decide ((-1 : Int) = -1) = true := by decide
        have k60 : decide ((-1 : Int) = 0) = false := by decide
        by_cases k1 : mn < 0
        · have k1d := decide_eq_true k1
          have HF' : Hid ((rs.all laOk && decide (NA ≤ 1)) = false) := by show _ = _; rw [HNo.out (by rw [HG.out, k1d, k6d, k60]; first | rfl | simp), Bool.false_and]
          clear k6d k60
          go_wp2_with fail
          refine wp_region_quiet_below (by kernel_rfl) (by kernel_rfl) ?_
          repeat (go_big_quiet_step (exact Calls.regrown_of (HC2.out _ _)))
          refine wpQuiet_nil ?_
          intro w9 hw'
          have hb9 : Below V.heap.size V w9 := by
            obtain ⟨⟨dq, osq⟩, rfl⟩ := hw'
            exact below_regrown V dq osq
          have HW9 := Hid.mk (HV.out.trans (hb9.mono HV.out.size))
          clear hw' hb9 hV hX D0 d0 D1 d1 D2 d2 D3 d3 D4 d4 D5 d5 D6 d6 D7 d7 D8 d8 D9 d9 D10 d10
          go_wp2_with fail
          go_ret
          exact ⟨by first | (rw [HF'.out]; rfl) | rw [HF'.out], HW9.out⟩
        · have k1d := decide_eq_false k1
          cases g with
          | false =>
            have HU' : Hid ((rs.take (k + 1)).all laOk = true) := by show _ = _; rw [HU.out, HQ.out, HG.out, k1d, k6d, k60]; rfl
            clear k6d k60
            go_wp2_with fail
            refine wp_region_quiet_below (by kernel_rfl) (by kernel_rfl) ?_
            repeat (go_big_quiet_step (exact Calls.regrown_of (HC2.out _ _)))
            refine wpQuiet_nil ?_
            intro w9 hw'
            have hb9 : Below V.heap.size V w9 := by
              obtain ⟨⟨dq, osq⟩, rfl⟩ := hw'
              exact below_regrown V dq osq
            have HW9 := Hid.mk (HV.out.trans (hb9.mono HV.out.size))
            clear hw' hb9 hV hX D0 d0 D1 d1 D2 d2 D3 d3 D4 d4 D5 d5 D6 d6 D7 d7 D8 d8 D9 d9 D10 d10
            go_wp2_with fail
            go_roundw
            case rel => exact ⟨k + 1, hlt, by go_num, HW9, HU'⟩
            case measure => simp [intOf]; omega
          | true =>
            have HF' : Hid ((rs.all laOk && decide (NA ≤ 1)) = false) := by show _ = _; rw [HNo.out (by rw [HG.out, k1d, k6d, k60]; first | rfl | simp), Bool.false_and]
            clear k6d k60
            go_wp2_with fail
            refine wp_region_quiet_below (by kernel_rfl) (by kernel_rfl) ?_
            repeat (go_big_quiet_step (exact Calls.regrown_of (HC2.out _ _)))
            refine wpQuiet_nil ?_
            intro w9 hw'
            have hb9 : Below V.heap.size V w9 := by
              obtain ⟨⟨dq, osq⟩, rfl⟩ := hw'
              exact below_regrown V dq osq
            have HW9 := Hid.mk (HV.out.trans (hb9.mono HV.out.size))
            clear hw' hb9 hV hX D0 d0 D1 d1 D2 d2 D3 d3 D4 d4 D5 d5 D6 d6 D7 d7 D8 d8 D9 d9 D10 d10
            go_wp2_with fail
            go_ret
            exact ⟨by first | (rw [HF'.out]; rfl) | rw [HF'.out], HW9.out⟩
      · have k6' : (mx == -1) = false := by simp [k6]
        have k6d := decide_eq_false k6
        by_cases k7 : mn ≤ mx
        · have k7d := decide_eq_true k7
          by_cases k1 : mn < 0
          · have k1d := decide_eq_true k1
            have HF' : Hid ((rs.all laOk && decide (NA ≤ 1)) = false) := by show _ = _; rw [HNo.out (by rw [HG.out, k1d, k6d, k7d]; first | rfl | simp), Bool.false_and]
            go_wp2_with fail
            refine wp_region_quiet_below (by kernel_rfl) (by kernel_rfl) ?_
            repeat (go_big_quiet_step (exact Calls.regrown_of (HC2.out _ _)))
            refine wpQuiet_nil ?_
            intro w9 hw'
            have hb9 : Below V.heap.size V w9 := by
              obtain ⟨⟨dq, osq⟩, rfl⟩ := hw'
              exact below_regrown V dq osq
            have HW9 := Hid.mk (HV.out.trans (hb9.mono HV.out.size))
            clear hw' hb9 hV hX D0 d0 D1 d1 D2 d2 D3 d3 D4 d4 D5 d5 D6 d6 D7 d7 D8 d8 D9 d9 D10 d10
            go_wp2_with fail
            go_ret
            exact ⟨by first | (rw [HF'.out]; rfl) | rw [HF'.out], HW9.out⟩
          · have k1d := decide_eq_false k1
            by_cases k5 : mx = 0
            · have k5d := decide_eq_true k5
              have k5' : (mx == 0) = true := by simp [k5]
              cases g with
              | false =>
                have HF' : Hid ((rs.all laOk && decide (NA ≤ 1)) = false) := by show _ = _; rw [HNo.out (by rw [HG.out, k1d, k5d, k6d, k7d]; first | rfl | simp), Bool.false_and]
                clear k5 k5d
                go_wp2_with fail
                refine wp_region_quiet_below (by kernel_rfl) (by kernel_rfl) ?_
                repeat (go_big_quiet_step (exact Calls.regrown_of (HC2.out _ _)))
                refine wpQuiet_nil ?_
                intro w9 hw'
                have hb9 : Below V.heap.size V w9 := by
                  obtain ⟨⟨dq, osq⟩, rfl⟩ := hw'
                  exact below_regrown V dq osq
                have HW9 := Hid.mk (HV.out.trans (hb9.mono HV.out.size))
                clear hw' hb9 hV hX D0 d0 D1 d1 D2 d2 D3 d3 D4 d4 D5 d5 D6 d6 D7 d7 D8 d8 D9 d9 D10 d10
                go_wp2_with fail
                go_ret
                exact ⟨by first | (rw [HF'.out]; rfl) | rw [HF'.out], HW9.out⟩
              | true =>
                have HU' : Hid ((rs.take (k + 1)).all laOk = true) := by show _ = _; rw [HU.out, HQ.out, HG.out, k1d, k5d, k6d, k7d]; rfl
                clear k5 k5d
                go_wp2_with fail
                refine wp_region_quiet_below (by kernel_rfl) (by kernel_rfl) ?_
                repeat (go_big_quiet_step (exact Calls.regrown_of (HC2.out _ _)))
                refine wpQuiet_nil ?_
                intro w9 hw'
                have hb9 : Below V.heap.size V w9 := by
                  obtain ⟨⟨dq, osq⟩, rfl⟩ := hw'
                  exact below_regrown V dq osq
                have HW9 := Hid.mk (HV.out.trans (hb9.mono HV.out.size))
                clear hw' hb9 hV hX D0 d0 D1 d1 D2 d2 D3 d3 D4 d4 D5 d5 D6 d6 D7 d7 D8 d8 D9 d9 D10 d10
                go_wp2_with fail
                go_roundw
                case rel => exact ⟨k + 1, hlt, by go_num, HW9, HU'⟩
                case measure => simp [intOf]; omega
            · have k5d := decide_eq_false k5
              have k5' : (mx == 0) = false := by simp [k5]
              cases g with
              | false =>
                have HU' : Hid ((rs.take (k + 1)).all laOk = true) := by show _ = _; rw [HU.out, HQ.out, HG.out, k1d, k5d, k6d, k7d]; rfl
                clear k5 k5d
                go_wp2_with fail
                refine wp_region_quiet_below (by kernel_rfl) (by kernel_rfl) ?_
                repeat (go_big_quiet_step (exact Calls.regrown_of (HC2.out _ _)))
                refine wpQuiet_nil ?_
                intro w9 hw'
                have hb9 : Below V.heap.size V w9 := by
                  obtain ⟨⟨dq, osq⟩, rfl⟩ := hw'
                  exact below_regrown V dq osq
                have HW9 := Hid.mk (HV.out.trans (hb9.mono HV.out.size))
                clear hw' hb9 hV hX D0 d0 D1 d1 D2 d2 D3 d3 D4 d4 D5 d5 D6 d6 D7 d7 D8 d8 D9 d9 D10 d10
                go_wp2_with fail
                go_roundw
                case rel => exact ⟨k + 1, hlt, by go_num, HW9, HU'⟩
                case measure => simp [intOf]; omega
              | true =>
                have HF' : Hid ((rs.all laOk && decide (NA ≤ 1)) = false) := by show _ = _; rw [HNo.out (by rw [HG.out, k1d, k5d, k6d, k7d]; first | rfl | simp), Bool.false_and]
                clear k5 k5d
                go_wp2_with fail
                refine wp_region_quiet_below (by kernel_rfl) (by kernel_rfl) ?_
                repeat (go_big_quiet_step (exact Calls.regrown_of (HC2.out _ _)))
                refine wpQuiet_nil ?_
                intro w9 hw'
                have hb9 : Below V.heap.size V w9 := by
                  obtain ⟨⟨dq, osq⟩, rfl⟩ := hw'
                  exact below_regrown V dq osq
                have HW9 := Hid.mk (HV.out.trans (hb9.mono HV.out.size))
                clear hw' hb9 hV hX D0 d0 D1 d1 D2 d2 D3 d3 D4 d4 D5 d5 D6 d6 D7 d7 D8 d8 D9 d9 D10 d10
                go_wp2_with fail
                go_ret
                exact ⟨by first | (rw [HF'.out]; rfl) | rw [HF'.out], HW9.out⟩
        · have k7d := decide_eq_false k7
          by_cases k1 : mn < 0
          · have k1d := decide_eq_true k1
            have HF' : Hid ((rs.all laOk && decide (NA ≤ 1)) = false) := by show _ = _; rw [HNo.out (by rw [HG.out, k1d, k6d, k7d]; first | rfl | simp), Bool.false_and]
            go_wp2_with fail
            refine wp_region_quiet_below (by kernel_rfl) (by kernel_rfl) ?_
            repeat (go_big_quiet_step (exact Calls.regrown_of (HC2.out _ _)))
            refine wpQuiet_nil ?_
            intro w9 hw'
            have hb9 : Below V.heap.size V w9 := by
              obtain ⟨⟨dq, osq⟩, rfl⟩ := hw'
              exact below_regrown V dq osq
            have HW9 := Hid.mk (HV.out.trans (hb9.mono HV.out.size))
            clear hw' hb9 hV hX D0 d0 D1 d1 D2 d2 D3 d3 D4 d4 D5 d5 D6 d6 D7 d7 D8 d8 D9 d9 D10 d10
            go_wp2_with fail
            go_ret
            exact ⟨by first | (rw [HF'.out]; rfl) | rw [HF'.out], HW9.out⟩
          · have k1d := decide_eq_false k1
            have HF' : Hid ((rs.all laOk && decide (NA ≤ 1)) = false) := by show _ = _; rw [HNo.out (by rw [HG.out, k1d, k6d, k7d]; first | rfl | simp), Bool.false_and]
            go_wp2_with fail
            refine wp_region_quiet_below (by kernel_rfl) (by kernel_rfl) ?_
            repeat (go_big_quiet_step (exact Calls.regrown_of (HC2.out _ _)))
            refine wpQuiet_nil ?_
            intro w9 hw'
            have hb9 : Below V.heap.size V w9 := by
              obtain ⟨⟨dq, osq⟩, rfl⟩ := hw'
              exact below_regrown V dq osq
            have HW9 := Hid.mk (HV.out.trans (hb9.mono HV.out.size))
            clear hw' hb9 hV hX D0 d0 D1 d1 D2 d2 D3 d3 D4 d4 D5 d5 D6 d6 D7 d7 D8 d8 D9 d9 D10 d10
            go_wp2_with fail
            go_ret
            exact ⟨by first | (rw [HF'.out]; rfl) | rw [HF'.out], HW9.out⟩
    · have hl1 : ¬ (k : Int) < (NA : Int) := by omega
      have HA : Hid (rs.all laOk = true) := by show _ = _; rw [← HQ.out, List.take_of_length_le (by rw [HN.out]; omega)]
      obtain ⟨q0, q1, q2, q3, q4, q5, q6, q7, q8⟩ := (HX.out.keep HB.out).nine
      simp only [Nat.zero_add] at q1 q2 q3 q4 q5 q6 q7 q8
      by_cases h1 : NA ≤ 1
      · have h1i : (NA : Int) ≤ 1 := by omega
        have HD := Hid.mk (decide_eq_true h1)
        clear h1
        go_wp2_with fail
        go_ret
        exact ⟨by first | (rw [HA.out, HD.out]; rfl) | (rw [HA.out]; rfl) | (simp [HA.out, HD.out]; done), HB.out⟩
      · have h1i : ¬ (NA : Int) ≤ 1 := by omega
        have HD := Hid.mk (decide_eq_false h1)
        clear h1
        go_wp2_with fail
        go_ret
        exact ⟨by first | (rw [HA.out, HD.out]; rfl) | (rw [HA.out]; rfl) | (simp [HA.out, HD.out]; done), HB.out⟩
end Go.Proofs.YthcohnnikmpjkaaGreat
