import Derived.Test.YtapjfocjeligiaaGreatDoorM25
namespace Go.Proofs.YtapjfocjeligiaaGreatDoor
open Go.RowKit Go.Shelf Go.Sort
set_option linter.unusedVariables false
set_option linter.unusedSimpArgs false
attribute [local go_sem] Oper.semAt_some

/-- a row of alternatives, as it lies -/
structure ObIn (W : World) (h : Nat) (oo : Option Addr) (os : List OB) : Prop where
  row : 0 < os.length → ∃ b off, oo = some ⟨b, off, none⟩ ∧ b < W.heap.size ∧ ∀ i, (hi : i < os.length) → ∃ (ko : Option Addr) (kc : Nat) (fo : Option Addr) (fc : Nat) (mo : Option Addr) (mc : Nat) (c0 c1 c2 c3 c4 c5 c6 c7 c8 : Value),
    (W.cell? ⟨b, off + i * 12, none⟩ = some (.slice ko os[i].names.length kc) ∧ W.cell? ⟨b, off + i * 12 + 1, none⟩ = some (.slice fo os[i].fields.length fc) ∧ W.cell? ⟨b, off + i * 12 + 2, none⟩ = some (.slice mo os[i].must.length mc)) ∧
    C9 W b (off + i * 12 + 3) c0 c1 c2 c3 c4 c5 c6 c7 c8 ∧ InO W h os[i] ko kc fo fc mo mc c0 c1 c2 c3 c4 c5 c6 c7 c8
theorem ObIn.keep {W W' : World} {h : Nat} {oo : Option Addr} {os : List OB} (x : ObIn W h oo os) (hb : Below W.heap.size W W') : ObIn W' h oo os := by
  refine ⟨fun h0 => ?_⟩
  obtain ⟨b, off, e2, hl, hc⟩ := x.row h0
  refine ⟨b, off, e2, Nat.lt_of_lt_of_le hl hb.size, fun i hi => ?_⟩
  obtain ⟨ko, kc, fo, fc, mo, mc, c0, c1, c2, c3, c4, c5, c6, c7, c8, ⟨g1, g2, g3⟩, h1, h2⟩ := hc i hi
  exact ⟨ko, kc, fo, fc, mo, mc, c0, c1, c2, c3, c4, c5, c6, c7, c8, ⟨(hb.cell (p := ⟨_, _, _⟩) hl).trans g1, (hb.cell (p := ⟨_, _, _⟩) hl).trans g2, (hb.cell (p := ⟨_, _, _⟩) hl).trans g3⟩, h1.keep hb hl, h2.keep hb⟩

set_option maxRecDepth 100000 in
set_option maxHeartbeats 3200000 in
theorem w_robjects (h : Nat) (ih : FtOk h) (oo : Option Addr) (N oc : Nat) (os : List OB) (w : World) (hI : ObIn w h oo os) (hN : os.length = N) (hc : N ≤ oc) (hN2 : N ≤ 140737488355328) :
    Calls Tryz.prog 29 #[.slice oo N oc] w fun e w' => e = .returned (.bool (os.all (obOk (fmN h)))) ∧ Below w.heap.size w w' := by
  have HI := Hid.mk hI
  have HNN := Hid.mk hN
  have HIh := Hid.mk ih
  clear hI hN ih
  go_enter Tryz.func29, Tryz.ntmps29
  go_wp2_with fail
  go_loopw [3] (fun i wr => ∃ k : Nat, k ≤ N ∧ i = .int .i64 (k : Int) ∧ Hid (Below w.heap.size w wr) ∧ Hid ((os.take k).all (obOk (fmN h)) = true)) (fun i _ => N - (intOf i).toNat)
  case atStart => exact ⟨0, Nat.zero_le _, rfl, Below.refl _ _, rfl⟩
  case round =>
    obtain ⟨k, hk, rfl, HB, HQ⟩ := hrel
    by_cases hlt : k < N
    · have hl1 : (k : Int) < (N : Int) := by omega
      have hl0 : (0 : Int) ≤ (k : Int) := by omega
      have hkl : k < os.length := by rw [HNN.out]; exact hlt
      obtain ⟨b, off, hio, hbl, hrow⟩ := (HI.out.keep HB.out).row (by omega)
      subst hio
      obtain ⟨ko, kc, fo, fc, mo, mc, c0, c1, c2, c3, c4, c5, c6, c7, c8, ⟨g1, g2, g3⟩, hc9, hO⟩ := hrow k hkl
      have HC := Hid.mk (w_robject h HIh.out os[k] ko kc fo fc mo mc c0 c1 c2 c3 c4 c5 c6 c7 c8 wr hO)
      obtain ⟨e0, e1, e2, e3, e4, e5, e6, e7, e8, esh⟩ := inT_shape hO.rest
      simp only [Value.agg.injEq, Array.mk.injEq, List.cons.injEq, and_true] at esh
      obtain ⟨rfl, rfl, rfl, rfl, rfl, rfl, rfl, rfl, rfl⟩ := esh
      obtain ⟨q0, q1, q2, q3, q4, q5, q6, q7, q8⟩ := hc9
      have HUp := Hid.mk (zall_up (f := obOk (fmN h)) hkl)
      have HNo := Hid.mk (fun hh => zall_no (f := obOk (fmN h)) hkl hh)
      generalize os[k].names.length = n1 at *
      generalize os[k].fields.length = n2 at *
      generalize os[k].must.length = n3 at *
      clear hrow hbl hO
      cases hf : obOk (fmN h) os[k] with
      | true =>
        rw [hf] at HC
        have HN : Hid ((os.take (k + 1)).all (obOk (fmN h)) = true) := by show _ = _; rw [HUp.out, HQ.out, hf]; rfl
        clear hf hkl HUp HNo
        go_wp2_with fail
        refine HC.out.mono ?_
        rintro e w2 ⟨rfl, hb2⟩
        have HB2 := Hid.mk (HB.out.trans (hb2.mono HB.out.size))
        clear hb2 g1 g2 g3 q0 q1 q2 q3 q4 q5 q6 q7 q8
        go_wp2_with fail
        go_roundw
        case rel => exact ⟨k + 1, hlt, by go_num, HB2, HN⟩
        case measure => simp [intOf]; omega
      | false =>
        rw [hf] at HC
        have HF := Hid.mk (HNo.out hf)
        clear hf hkl HUp HNo
        go_wp2_with fail
        refine HC.out.mono ?_
        rintro e w2 ⟨rfl, hb2⟩
        have HB2 := Hid.mk (HB.out.trans (hb2.mono HB.out.size))
        clear hb2 g1 g2 g3 q0 q1 q2 q3 q4 q5 q6 q7 q8
        go_wp2_with fail
        go_ret
        exact ⟨by rw [HF.out]; rfl, HB2.out⟩
    · have hl1 : ¬ (k : Int) < (N : Int) := by omega
      have HF : Hid (os.all (obOk (fmN h)) = true) := by
        have h1 := HQ.out
        rw [List.take_of_length_le (by rw [HNN.out]; omega)] at h1
        exact h1
      go_wp2_with fail
      go_ret
      exact ⟨by rw [HF.out]; rfl, HB.out⟩

set_option maxRecDepth 100000 in
set_option maxHeartbeats 6400000 in
theorem formed_v (b0 b1 b2 b3 b5 : Bool) (no xo ao oo : Option Addr) (nn nc nx xc NA ac NO oc : Nat) (w : World) (a6 : nx ≤ 140737488355328) (ba ri sp ar ob : Bool)
    (HBa : Hid (∀ u, Below w.heap.size w u → Calls Tryz.prog 26 #[.agg #[.bool b0, .bool b1, .bool b2, .bool b3, .slice no nn nc, .bool b5, .slice xo nx xc, .slice ao NA ac, .slice oo NO oc]] u fun e w' => e = .returned (.bool ba) ∧ Below u.heap.size u w'))
    (HSp : Hid (∀ u, Below w.heap.size w u → Calls Tryz.prog 27 #[.slice no nn nc] u fun e w' => e = .returned (.bool sp) ∧ Below u.heap.size u w'))
    (HAr : Hid (∀ u, Below w.heap.size w u → Calls Tryz.prog 28 #[.slice ao NA ac] u fun e w' => e = .returned (.bool ar) ∧ Below u.heap.size u w'))
    (HOb : Hid (∀ u, Below w.heap.size w u → Calls Tryz.prog 29 #[.slice oo NO oc] u fun e w' => e = .returned (.bool ob) ∧ Below u.heap.size u w'))
    (HRi : Hid (∀ u, Below w.heap.size w u → Calls Tryz.prog 25 #[.slice xo nx xc] u fun e w' => e = .returned (.bool ri) ∧ Below u.heap.size u w')) :
    Calls Tryz.prog 14 #[.agg #[.bool b0, .bool b1, .bool b2, .bool b3, .slice no nn nc, .bool b5, .slice xo nx xc, .slice ao NA ac, .slice oo NO oc]] w fun e w' => e = .returned (.bool (!(b0 && !ba) && (ri && (!(b5 && decide (0 < nx)) && (sp && (ar && ob)))))) ∧ Below w.heap.size w w' := by
  have HX0 := Hid.mk (tbx_new w (.bool b0) (.bool b1) (.bool b2) (.bool b3) (.slice no nn nc) (.bool b5) (.slice xo nx xc) (.slice ao NA ac) (.slice oo NO oc))
  obtain ⟨W0, hW0⟩ : ∃ W0, w.alloc (.cells #[.bool b0, .bool b1, .bool b2, .bool b3, .slice no nn nc, .bool b5, .slice xo nx xc, .slice ao NA ac, .slice oo NO oc] 29) = W0 := ⟨_, rfl⟩
  rw [hW0] at HX0
  obtain ⟨_, c0, c1, c2, c3, c4, c5, c6, c7, c8, _⟩ := HX0.out
  cases b0 with
  | false =>
    go_enter Tryz.func14, Tryz.ntmps14
    cases ri with
    | false =>
      go_wp2_with fail
      refine (HRi.out _ HX0.out.below).mono ?_
      rintro e v1 ⟨rfl, hq⟩
      have HX1 := Hid.mk (HX0.out.keep hq)
      clear hq HX0 c0 c1 c2 c3 c4 c5 c6 c7 c8 hW0
      obtain ⟨_, c0, c1, c2, c3, c4, c5, c6, c7, c8, _⟩ := HX1.out
      go_wp2_with fail
      go_ret
      exact ⟨by first | rfl | (simp; done) | (simp [*]; done) | (simp; omega), HX1.out.below⟩
    | true =>
      cases b5 with
      | false =>
        go_wp2_with fail
        refine (HRi.out _ HX0.out.below).mono ?_
        rintro e v1 ⟨rfl, hq⟩
        have HX1 := Hid.mk (HX0.out.keep hq)
        clear hq HX0 c0 c1 c2 c3 c4 c5 c6 c7 c8 hW0
        obtain ⟨_, c0, c1, c2, c3, c4, c5, c6, c7, c8, _⟩ := HX1.out
        cases sp with
        | false =>
          go_wp2_with fail
          refine (HSp.out _ HX1.out.below).mono ?_
          rintro e v2 ⟨rfl, hq⟩
          have HX2 := Hid.mk (HX1.out.keep hq)
          clear hq HX1 c0 c1 c2 c3 c4 c5 c6 c7 c8
          obtain ⟨_, c0, c1, c2, c3, c4, c5, c6, c7, c8, _⟩ := HX2.out
          go_wp2_with fail
          go_ret
          exact ⟨by first | rfl | (simp; done) | (simp [*]; done) | (simp; omega), HX2.out.below⟩
        | true =>
          cases ar with
          | false =>
            go_wp2_with fail
            refine (HSp.out _ HX1.out.below).mono ?_
            rintro e v2 ⟨rfl, hq⟩
            have HX2 := Hid.mk (HX1.out.keep hq)
            clear hq HX1 c0 c1 c2 c3 c4 c5 c6 c7 c8
            obtain ⟨_, c0, c1, c2, c3, c4, c5, c6, c7, c8, _⟩ := HX2.out
            go_wp2_with fail
            refine (HAr.out _ HX2.out.below).mono ?_
            rintro e v3 ⟨rfl, hq⟩
            have HX3 := Hid.mk (HX2.out.keep hq)
            clear hq HX2 c0 c1 c2 c3 c4 c5 c6 c7 c8
            obtain ⟨_, c0, c1, c2, c3, c4, c5, c6, c7, c8, _⟩ := HX3.out
            go_wp2_with fail
            go_ret
            exact ⟨by first | rfl | (simp; done) | (simp [*]; done) | (simp; omega), HX3.out.below⟩
          | true =>
            go_wp2_with fail
            refine (HSp.out _ HX1.out.below).mono ?_
            rintro e v2 ⟨rfl, hq⟩
            have HX2 := Hid.mk (HX1.out.keep hq)
            clear hq HX1 c0 c1 c2 c3 c4 c5 c6 c7 c8
            obtain ⟨_, c0, c1, c2, c3, c4, c5, c6, c7, c8, _⟩ := HX2.out
            go_wp2_with fail
            refine (HAr.out _ HX2.out.below).mono ?_
            rintro e v3 ⟨rfl, hq⟩
            have HX3 := Hid.mk (HX2.out.keep hq)
            clear hq HX2 c0 c1 c2 c3 c4 c5 c6 c7 c8
            obtain ⟨_, c0, c1, c2, c3, c4, c5, c6, c7, c8, _⟩ := HX3.out
            go_wp2_with fail
            refine (HOb.out _ HX3.out.below).mono ?_
            rintro e v4 ⟨rfl, hq⟩
            have HX4 := Hid.mk (HX3.out.keep hq)
            clear hq HX3 c0 c1 c2 c3 c4 c5 c6 c7 c8
            obtain ⟨_, c0, c1, c2, c3, c4, c5, c6, c7, c8, _⟩ := HX4.out
            go_wp2_with fail
            go_ret
            exact ⟨by first | rfl | (simp; done) | (simp [*]; done) | (simp; omega), HX4.out.below⟩
      | true =>
        by_cases z : nx = 0
        · subst z
          go_wp2_with fail
          refine (HRi.out _ HX0.out.below).mono ?_
          rintro e v1 ⟨rfl, hq⟩
          have HX1 := Hid.mk (HX0.out.keep hq)
          clear hq HX0 c0 c1 c2 c3 c4 c5 c6 c7 c8 hW0
          obtain ⟨_, c0, c1, c2, c3, c4, c5, c6, c7, c8, _⟩ := HX1.out
          cases sp with
          | false =>
            go_wp2_with fail
            refine (HSp.out _ HX1.out.below).mono ?_
            rintro e v2 ⟨rfl, hq⟩
            have HX2 := Hid.mk (HX1.out.keep hq)
            clear hq HX1 c0 c1 c2 c3 c4 c5 c6 c7 c8
            obtain ⟨_, c0, c1, c2, c3, c4, c5, c6, c7, c8, _⟩ := HX2.out
            go_wp2_with fail
            go_ret
            exact ⟨by first | rfl | (simp; done) | (simp [*]; done) | (simp; omega), HX2.out.below⟩
          | true =>
            cases ar with
            | false =>
              go_wp2_with fail
              refine (HSp.out _ HX1.out.below).mono ?_
              rintro e v2 ⟨rfl, hq⟩
              have HX2 := Hid.mk (HX1.out.keep hq)
              clear hq HX1 c0 c1 c2 c3 c4 c5 c6 c7 c8
              obtain ⟨_, c0, c1, c2, c3, c4, c5, c6, c7, c8, _⟩ := HX2.out
              go_wp2_with fail
              refine (HAr.out _ HX2.out.below).mono ?_
              rintro e v3 ⟨rfl, hq⟩
              have HX3 := Hid.mk (HX2.out.keep hq)
              clear hq HX2 c0 c1 c2 c3 c4 c5 c6 c7 c8
              obtain ⟨_, c0, c1, c2, c3, c4, c5, c6, c7, c8, _⟩ := HX3.out
              go_wp2_with fail
              go_ret
              exact ⟨by first | rfl | (simp; done) | (simp [*]; done) | (simp; omega), HX3.out.below⟩
            | true =>
              go_wp2_with fail
              refine (HSp.out _ HX1.out.below).mono ?_
              rintro e v2 ⟨rfl, hq⟩
              have HX2 := Hid.mk (HX1.out.keep hq)
              clear hq HX1 c0 c1 c2 c3 c4 c5 c6 c7 c8
              obtain ⟨_, c0, c1, c2, c3, c4, c5, c6, c7, c8, _⟩ := HX2.out
              go_wp2_with fail
              refine (HAr.out _ HX2.out.below).mono ?_
              rintro e v3 ⟨rfl, hq⟩
              have HX3 := Hid.mk (HX2.out.keep hq)
              clear hq HX2 c0 c1 c2 c3 c4 c5 c6 c7 c8
              obtain ⟨_, c0, c1, c2, c3, c4, c5, c6, c7, c8, _⟩ := HX3.out
              go_wp2_with fail
              refine (HOb.out _ HX3.out.below).mono ?_
              rintro e v4 ⟨rfl, hq⟩
              have HX4 := Hid.mk (HX3.out.keep hq)
              clear hq HX3 c0 c1 c2 c3 c4 c5 c6 c7 c8
              obtain ⟨_, c0, c1, c2, c3, c4, c5, c6, c7, c8, _⟩ := HX4.out
              go_wp2_with fail
              go_ret
              exact ⟨by first | rfl | (simp; done) | (simp [*]; done) | (simp; omega), HX4.out.below⟩
        · have z1 : (0 : Int) < (nx : Int) := by omega
          have z2 : 0 < nx := by omega
          go_wp2_with fail
          refine (HRi.out _ HX0.out.below).mono ?_
          rintro e v1 ⟨rfl, hq⟩
          have HX1 := Hid.mk (HX0.out.keep hq)
          clear hq HX0 c0 c1 c2 c3 c4 c5 c6 c7 c8 hW0
          obtain ⟨_, c0, c1, c2, c3, c4, c5, c6, c7, c8, _⟩ := HX1.out
          go_wp2_with fail
          go_ret
          exact ⟨by first | rfl | (simp; done) | (simp [*]; done) | (simp; omega), HX1.out.below⟩
  | true =>
    cases ba with
    | false =>
      go_enter Tryz.func14, Tryz.ntmps14
      go_wp2_with fail
      refine (HBa.out _ HX0.out.below).mono ?_
      rintro e v1 ⟨rfl, hq⟩
      have HX1 := Hid.mk (HX0.out.keep hq)
      clear hq HX0 c0 c1 c2 c3 c4 c5 c6 c7 c8 hW0
      obtain ⟨_, c0, c1, c2, c3, c4, c5, c6, c7, c8, _⟩ := HX1.out
      go_wp2_with fail
      go_ret
      exact ⟨by first | rfl | (simp; done) | (simp [*]; done) | (simp; omega), HX1.out.below⟩
    | true =>
      go_enter Tryz.func14, Tryz.ntmps14
      go_wp2_with fail
      refine (HBa.out _ HX0.out.below).mono ?_
      rintro e v1 ⟨rfl, hq⟩
      have HX1 := Hid.mk (HX0.out.keep hq)
      clear hq HX0 c0 c1 c2 c3 c4 c5 c6 c7 c8 hW0
      obtain ⟨_, c0, c1, c2, c3, c4, c5, c6, c7, c8, _⟩ := HX1.out
      cases ri with
      | false =>
        go_wp2_with fail
        refine (HRi.out _ HX1.out.below).mono ?_
        rintro e v2 ⟨rfl, hq⟩
        have HX2 := Hid.mk (HX1.out.keep hq)
        clear hq HX1 c0 c1 c2 c3 c4 c5 c6 c7 c8
        obtain ⟨_, c0, c1, c2, c3, c4, c5, c6, c7, c8, _⟩ := HX2.out
        go_wp2_with fail
        go_ret
        exact ⟨by first | rfl | (simp; done) | (simp [*]; done) | (simp; omega), HX2.out.below⟩
      | true =>
        cases b5 with
        | false =>
          go_wp2_with fail
          refine (HRi.out _ HX1.out.below).mono ?_
          rintro e v2 ⟨rfl, hq⟩
          have HX2 := Hid.mk (HX1.out.keep hq)
          clear hq HX1 c0 c1 c2 c3 c4 c5 c6 c7 c8
          obtain ⟨_, c0, c1, c2, c3, c4, c5, c6, c7, c8, _⟩ := HX2.out
          cases sp with
          | false =>
            go_wp2_with fail
            refine (HSp.out _ HX2.out.below).mono ?_
            rintro e v3 ⟨rfl, hq⟩
            have HX3 := Hid.mk (HX2.out.keep hq)
            clear hq HX2 c0 c1 c2 c3 c4 c5 c6 c7 c8
            obtain ⟨_, c0, c1, c2, c3, c4, c5, c6, c7, c8, _⟩ := HX3.out
            go_wp2_with fail
            go_ret
            exact ⟨by first | rfl | (simp; done) | (simp [*]; done) | (simp; omega), HX3.out.below⟩
          | true =>
            cases ar with
            | false =>
              go_wp2_with fail
              refine (HSp.out _ HX2.out.below).mono ?_
              rintro e v3 ⟨rfl, hq⟩
              have HX3 := Hid.mk (HX2.out.keep hq)
              clear hq HX2 c0 c1 c2 c3 c4 c5 c6 c7 c8
              obtain ⟨_, c0, c1, c2, c3, c4, c5, c6, c7, c8, _⟩ := HX3.out
              go_wp2_with fail
              refine (HAr.out _ HX3.out.below).mono ?_
              rintro e v4 ⟨rfl, hq⟩
              have HX4 := Hid.mk (HX3.out.keep hq)
              clear hq HX3 c0 c1 c2 c3 c4 c5 c6 c7 c8
              obtain ⟨_, c0, c1, c2, c3, c4, c5, c6, c7, c8, _⟩ := HX4.out
              go_wp2_with fail
              go_ret
              exact ⟨by first | rfl | (simp; done) | (simp [*]; done) | (simp; omega), HX4.out.below⟩
            | true =>
              go_wp2_with fail
              refine (HSp.out _ HX2.out.below).mono ?_
              rintro e v3 ⟨rfl, hq⟩
              have HX3 := Hid.mk (HX2.out.keep hq)
              clear hq HX2 c0 c1 c2 c3 c4 c5 c6 c7 c8
              obtain ⟨_, c0, c1, c2, c3, c4, c5, c6, c7, c8, _⟩ := HX3.out
              go_wp2_with fail
              refine (HAr.out _ HX3.out.below).mono ?_
              rintro e v4 ⟨rfl, hq⟩
              have HX4 := Hid.mk (HX3.out.keep hq)
              clear hq HX3 c0 c1 c2 c3 c4 c5 c6 c7 c8
              obtain ⟨_, c0, c1, c2, c3, c4, c5, c6, c7, c8, _⟩ := HX4.out
              go_wp2_with fail
              refine (HOb.out _ HX4.out.below).mono ?_
              rintro e v5 ⟨rfl, hq⟩
              have HX5 := Hid.mk (HX4.out.keep hq)
              clear hq HX4 c0 c1 c2 c3 c4 c5 c6 c7 c8
              obtain ⟨_, c0, c1, c2, c3, c4, c5, c6, c7, c8, _⟩ := HX5.out
              go_wp2_with fail
              go_ret
              exact ⟨by first | rfl | (simp; done) | (simp [*]; done) | (simp; omega), HX5.out.below⟩
        | true =>
          by_cases z : nx = 0
          · subst z
            go_wp2_with fail
            refine (HRi.out _ HX1.out.below).mono ?_
            rintro e v2 ⟨rfl, hq⟩
            have HX2 := Hid.mk (HX1.out.keep hq)
            clear hq HX1 c0 c1 c2 c3 c4 c5 c6 c7 c8
            obtain ⟨_, c0, c1, c2, c3, c4, c5, c6, c7, c8, _⟩ := HX2.out
            cases sp with
            | false =>
              go_wp2_with fail
              refine (HSp.out _ HX2.out.below).mono ?_
              rintro e v3 ⟨rfl, hq⟩
              have HX3 := Hid.mk (HX2.out.keep hq)
              clear hq HX2 c0 c1 c2 c3 c4 c5 c6 c7 c8
              obtain ⟨_, c0, c1, c2, c3, c4, c5, c6, c7, c8, _⟩ := HX3.out
              go_wp2_with fail
              go_ret
              exact ⟨by first | rfl | (simp; done) | (simp [*]; done) | (simp; omega), HX3.out.below⟩
            | true =>
              cases ar with
              | false =>
                go_wp2_with fail
                refine (HSp.out _ HX2.out.below).mono ?_
                rintro e v3 ⟨rfl, hq⟩
                have HX3 := Hid.mk (HX2.out.keep hq)
                clear hq HX2 c0 c1 c2 c3 c4 c5 c6 c7 c8
                obtain ⟨_, c0, c1, c2, c3, c4, c5, c6, c7, c8, _⟩ := HX3.out
                go_wp2_with fail
                refine (HAr.out _ HX3.out.below).mono ?_
                rintro e v4 ⟨rfl, hq⟩
                have HX4 := Hid.mk (HX3.out.keep hq)
                clear hq HX3 c0 c1 c2 c3 c4 c5 c6 c7 c8
                obtain ⟨_, c0, c1, c2, c3, c4, c5, c6, c7, c8, _⟩ := HX4.out
                go_wp2_with fail
                go_ret
                exact ⟨by first | rfl | (simp; done) | (simp [*]; done) | (simp; omega), HX4.out.below⟩
              | true =>
                go_wp2_with fail
                refine (HSp.out _ HX2.out.below).mono ?_
                rintro e v3 ⟨rfl, hq⟩
                have HX3 := Hid.mk (HX2.out.keep hq)
                clear hq HX2 c0 c1 c2 c3 c4 c5 c6 c7 c8
                obtain ⟨_, c0, c1, c2, c3, c4, c5, c6, c7, c8, _⟩ := HX3.out
                go_wp2_with fail
                refine (HAr.out _ HX3.out.below).mono ?_
                rintro e v4 ⟨rfl, hq⟩
                have HX4 := Hid.mk (HX3.out.keep hq)
                clear hq HX3 c0 c1 c2 c3 c4 c5 c6 c7 c8
                obtain ⟨_, c0, c1, c2, c3, c4, c5, c6, c7, c8, _⟩ := HX4.out
                go_wp2_with fail
                refine (HOb.out _ HX4.out.below).mono ?_
                rintro e v5 ⟨rfl, hq⟩
                have HX5 := Hid.mk (HX4.out.keep hq)
                clear hq HX4 c0 c1 c2 c3 c4 c5 c6 c7 c8
                obtain ⟨_, c0, c1, c2, c3, c4, c5, c6, c7, c8, _⟩ := HX5.out
                go_wp2_with fail
                go_ret
                exact ⟨by first | rfl | (simp; done) | (simp [*]; done) | (simp; omega), HX5.out.below⟩
          · have z1 : (0 : Int) < (nx : Int) := by omega
            have z2 : 0 < nx := by omega
            go_wp2_with fail
            refine (HRi.out _ HX1.out.below).mono ?_
            rintro e v2 ⟨rfl, hq⟩
            have HX2 := Hid.mk (HX1.out.keep hq)
            clear hq HX1 c0 c1 c2 c3 c4 c5 c6 c7 c8
            obtain ⟨_, c0, c1, c2, c3, c4, c5, c6, c7, c8, _⟩ := HX2.out
            go_wp2_with fail
            go_ret
            exact ⟨by first | rfl | (simp; done) | (simp [*]; done) | (simp; omega), HX2.out.below⟩

/-- THE DOCUMENT'S FORMED, of every type -/
theorem w_tFormed : ∀ h, FtOk h := by
  intro h
  induction h with
  | zero => intro T v w hI; exact hI.elim
  | succ h ih =>
    intro T v w hI
    have hI2 := hI
    obtain ⟨no, nc, xo, xc, ao, ac, oo, oc, rfl, ⟨a1, a2, a3, a4⟩, ⟨a5, a6, a7, a8⟩, z1, z2, hs, hk, ha, ho⟩ := hI
    have hA : ArIn w h ao T.arrs := ⟨ha⟩
    have hO : ObIn w h oo T.objs := ⟨fun h0 => by
      obtain ⟨b, off, e, hl, hc⟩ := ho h0
      refine ⟨b, off, e, hl, fun i hi => ?_⟩
      obtain ⟨ko, kc, fo, fc, mo, mc, c0, c1, c2, c3, c4, c5, c6, c7, c8, g, h1, h2, h3, h4, h5, h6, h7⟩ := hc i hi
      exact ⟨ko, kc, fo, fc, mo, mc, c0, c1, c2, c3, c4, c5, c6, c7, c8, g, h1, ⟨h2, h3, h4, h5, h6, h7⟩⟩⟩
    exact formed_v T.all T.nul T.fls T.tru T.any no xo ao oo T.nums.length nc T.texts.length xc T.arrs.length ac T.objs.length oc w a6 T.bare _ _ _ _
      (Hid.mk fun u hu => w_rBare (h + 1) T _ u (hI2.keep hu))
      (Hid.mk fun u hu => w_rSpans no _ nc T.nums u (hs.keep hu) rfl a1 a5 z1)
      (Hid.mk fun u hu => w_rarrays h ih ao _ ac T.arrs u (hA.keep hu) rfl a3 a7)
      (Hid.mk fun u hu => w_robjects h ih oo _ oc T.objs u (hO.keep hu) rfl a4 a8)
      (Hid.mk fun u hu => w_Rise xo _ xc T.texts u (hk.keep hu) rfl a2 a6 z2)
end Go.Proofs.YtapjfocjeligiaaGreatDoor
