import Derived.Test.YtmknelkgfnklfaaZZo
namespace Go.Proofs.Ytmknelkgfnklfaa
open Go.RowKit Go.Shelf Go.Sort
set_option linter.unusedVariables false
set_option linter.unusedSimpArgs false
attribute [local go_sem] Oper.semAt_some

theorem rises_mono {h : Nat} {ts : List VT} (hf : ∀ T ∈ ts, formN h T = true) (hr : ∀ j, (hj : j + 1 < ts.length) → 0 ≤ cmpH h ts[j + 1] ts[j]) (i d : Nat) (hd : i + d < ts.length) : cmpH h (ts[i]'(by omega)) ts[i + d] ≤ 0 := by
  have o := cmpH_ord h
  induction d with
  | zero => have := o.rf (hf _ (List.getElem_mem (show i < ts.length by omega))); show cmpH h ts[i] ts[i] ≤ 0; omega
  | succ d ih =>
    have a := ih (by omega)
    have b := hr (i + d) (by omega)
    have f1 := hf _ (List.getElem_mem (show i < ts.length by omega))
    have f2 := hf _ (List.getElem_mem (show i + d < ts.length by omega))
    have f3 := hf _ (List.getElem_mem (show i + d + 1 < ts.length by omega))
    have s := o.sw _ _ f3 f2
    have t := o.tr _ _ _ f1 f2 f3 a (by omega)
    exact t
theorem cnt_pos {ts : List VT} {V : VT} : 0 < cnt ts V ↔ V ∈ ts := by
  unfold cnt
  rw [List.length_pos_iff_exists_mem]
  constructor
  · rintro ⟨t, ht⟩
    obtain ⟨h1, h2⟩ := List.mem_filter.1 ht
    rw [← sm_iff.1 h2]; exact h1
  · intro h
    exact ⟨V, List.mem_filter.2 ⟨h, sm_yes V⟩⟩
theorem find_in {h : Nat} {ts : List VT} {V : VT} (hf : ∀ T ∈ ts, formN h T = true) (hV : formN h V = true) (hr : ∀ j, (hj : j + 1 < ts.length) → 0 ≤ cmpH h ts[j + 1] ts[j]) :
    (decide (bel h ts V < ts.length) && decide (cV h ts V (bel h ts V) = 0)) = decide (0 < cnt ts V) := by
  have o := cmpH_ord h
  obtain ⟨r1, r2⟩ := rises_cut hV ts hf hr
  by_cases hm : V ∈ ts
  · rw [decide_eq_true (cnt_pos.2 hm)]
    obtain ⟨j, hj, e⟩ := List.mem_iff_getElem.1 hm
    have c0 : cV h ts V j = 0 := by rw [cV_at hj, e]; exact o.rf hV
    have hb : bel h ts V ≤ j := by
      by_cases hlt : j < bel h ts V
      · have := r1 j hlt; omega
      · omega
    have hbl : bel h ts V < ts.length := by omega
    have m := rises_mono hf hr (bel h ts V) (j - bel h ts V) (by omega)
    have ej : bel h ts V + (j - bel h ts V) = j := by omega
    simp only [ej] at m
    rw [e] at m
    have g := r2 _ (Nat.le_refl _) hbl
    have c1 : cV h ts V (bel h ts V) = 0 := by rw [cV_at hbl] at g ⊢; omega
    rw [decide_eq_true hbl, decide_eq_true c1]; rfl
  · rw [decide_eq_false (fun h' => hm (cnt_pos.1 h'))]
    by_cases hbl : bel h ts V < ts.length
    · have c1 : ¬ cV h ts V (bel h ts V) = 0 := fun e => by
        rw [cV_at hbl] at e
        have := o.zr _ _ (hf _ (List.getElem_mem hbl)) hV e
        exact hm (this ▸ List.getElem_mem hbl)
      rw [decide_eq_false c1, Bool.and_false]
    · rw [decide_eq_false hbl, Bool.false_and]

set_option maxRecDepth 100000 in
set_option maxHeartbeats 3200000 in
theorem w_OrderFinds (h : Nat) (io : Option Addr) (N icap : Nat) (ts : List VT) (V : VT) (a0 a1 a2 a3 a4 : Value) (w : World) (hi : IIn w h io ts) (hN : ts.length = N) (hcap : N ≤ icap) (hN2 : N ≤ 140737488355328) (hV : InH w h V (.agg #[a0, a1, a2, a3, a4])) :
    Calls Try.prog 8 #[.slice io N icap, .agg #[a0, a1, a2, a3, a4]] w fun e w' => e = .returned (.bool true) ∧ Below w.heap.size w w' := by
  obtain ⟨tk, tnm, ttx, tio, tN, ticap, tko, tK, tkcap, rfl, rfl, rfl, rfl, rfl⟩ := hV.shape
  obtain ⟨w1, hw1⟩ : ∃ w1, w.alloc (.cells #[.int .i64 tk, .string tnm, .string ttx, .slice tio tN ticap, .slice tko tK tkcap] 25) = w1 := ⟨_, rfl⟩
  have HBx : Hid (Below w.heap.size w w1) := by subst hw1; exact below1 _ _
  have HX : Hid (VBx w w1 (.int .i64 tk) (.string tnm) (.string ttx) (.slice tio tN ticap) (.slice tko tK tkcap)) := by subst hw1; exact vbx_new _ _ _ _ _ _
  have HI := Hid.mk (hi.keep HBx.out)
  have HV := Hid.mk (hV.keep HBx.out)
  have HNN := Hid.mk hN
  have HF := Hid.mk (fun u (hb : Below w1.heap.size w1 u) => w_All h (w_rFormed h) io N icap ts u (HI.out.keep hb) HNN.out hcap hN2)
  have HG := Hid.mk (fun u (hb : Below w1.heap.size w1 u) => w_rFormed h V _ u (HV.out.keep hb))
  clear hi hN hV
  cases hf : ts.all (formN h) with
  | false =>
    rw [hf] at HF
    clear hf HG
    go_enter Try.func8, Try.ntmps8
    go_wp2_with fail
    try simp only [hw1]
    clear hw1
    refine (w_OrderKnown w1).mono ?_
    rintro e u1 ⟨rfl, hb⟩
    have HB := Hid.mk hb
    clear hb
    go_wp2_with fail
    refine (HF.out u1 HB.out).mono ?_
    rintro e u2 ⟨rfl, hb⟩
    have HB := Hid.mk (HB.out.trans (hb.mono HB.out.size))
    clear hb
    have HBw := Hid.mk (below_more HBx.out HB.out)
    go_wp2_with fail
    go_ret
    exact ⟨rfl, HBw.out⟩
  | true =>
    rw [hf] at HF
    have HFA : Hid (∀ T ∈ ts, formN h T = true) := fun T hT => (List.all_eq_true.1 hf) T hT
    have HRi := Hid.mk (fun u (hb : Below w1.heap.size w1 u) => w_lRises h io N icap ts u (HI.out.keep hb) HNN.out hcap hN2 HFA.out)
    cases hg : formN h V with
    | false =>
      rw [hg] at HG
      clear hf hg HRi
      go_enter Try.func8, Try.ntmps8
      go_wp2_with fail
      try simp only [hw1]
      clear hw1
      refine (w_OrderKnown w1).mono ?_
      rintro e u1 ⟨rfl, hb⟩
      have HB := Hid.mk hb
      clear hb
      go_wp2_with fail
      refine (HF.out u1 HB.out).mono ?_
      rintro e u2 ⟨rfl, hb⟩
      have HB := Hid.mk (HB.out.trans (hb.mono HB.out.size))
      clear hb
      have HXc := Hid.mk (HX.out.keep HB.out)
      have y0 := HXc.out.c0
      have y1 := HXc.out.c1
      have y2 := HXc.out.c2
      have y3 := HXc.out.c3
      have y4 := HXc.out.c4
      go_wp2_with fail
      refine (HG.out u2 HB.out).mono ?_
      rintro e u3 ⟨rfl, hb⟩
      have HB := Hid.mk (HB.out.trans (hb.mono HB.out.size))
      clear hb y0 y1 y2 y3 y4 HXc
      have HBw := Hid.mk (below_more HBx.out HB.out)
      go_wp2_with fail
      go_ret
      exact ⟨rfl, HBw.out⟩
    | true =>
      rw [hg] at HG
      have HFV := Hid.mk hg
      cases hr : risB (cK h ts) N with
      | false =>
        rw [hr] at HRi
        clear hf hg hr
        go_enter Try.func8, Try.ntmps8
        go_wp2_with fail
        try simp only [hw1]
        clear hw1
        refine (w_OrderKnown w1).mono ?_
        rintro e u1 ⟨rfl, hb⟩
        have HB := Hid.mk hb
        clear hb
        go_wp2_with fail
        refine (HF.out u1 HB.out).mono ?_
        rintro e u2 ⟨rfl, hb⟩
        have HB := Hid.mk (HB.out.trans (hb.mono HB.out.size))
        clear hb
        have HXc := Hid.mk (HX.out.keep HB.out)
        have y0 := HXc.out.c0
        have y1 := HXc.out.c1
        have y2 := HXc.out.c2
        have y3 := HXc.out.c3
        have y4 := HXc.out.c4
        go_wp2_with fail
        refine (HG.out u2 HB.out).mono ?_
        rintro e u3 ⟨rfl, hb⟩
        have HB := Hid.mk (HB.out.trans (hb.mono HB.out.size))
        clear hb y0 y1 y2 y3 y4 HXc
        go_wp2_with fail
        refine (HRi.out u3 HB.out).mono ?_
        rintro e u4 ⟨rfl, hb⟩
        have HB := Hid.mk (HB.out.trans (hb.mono HB.out.size))
        clear hb
        have HBw := Hid.mk (below_more HBx.out HB.out)
        go_wp2_with fail
        go_ret
        exact ⟨rfl, HBw.out⟩
      | true =>
        rw [hr] at HRi
        have hr2 : risB (cK h ts) ts.length = true := by rw [HNN.out]; exact hr
        have HRR := Hid.mk (risB_iff.1 hr2)
        have hse : seA h ts V = ((bel h ts V : Int), decide (bel h ts V < ts.length) && decide (cV h ts V (bel h ts V) = 0), 0) := by unfold seA; rw [hf, hg, Bool.and_self, if_pos rfl, if_pos hr2]
        have HSe := Hid.mk (fun u (hb : Below w1.heap.size w1 u) => w_oSearch h io N icap ts V _ _ _ _ _ u (HI.out.keep hb) HNN.out hcap hN2 (HV.out.keep hb))
        have HCt := Hid.mk (fun u (hb : Below w1.heap.size w1 u) => w_count h io N icap ts V _ _ _ _ _ u (HI.out.keep hb) HNN.out hcap hN2 (HV.out.keep hb))
        rw [hse, find_in HFA.out hg HRR.out] at HSe
        have HCut := Hid.mk (rises_cut hg ts HFA.out HRR.out)
        have hmN : bel h ts V ≤ N := by rw [← HNN.out]; exact bel_le ..
        generalize bel h ts V = m at *
        generalize cnt ts V = q at *
        clear hf hg hr hr2 hse
        have i0 : ¬ (m : Int) < 0 := by omega
        have i1 : ¬ (N : Int) < (m : Int) := by omega
        by_cases h0 : 0 < q
        · rw [decide_eq_true h0] at HSe
          have i2 : (0 : Int) < (q : Int) := by omega
          go_enter Try.func8, Try.ntmps8
          go_wp2_with fail
          try simp only [hw1]
          clear hw1
          refine (w_OrderKnown w1).mono ?_
          rintro e u1 ⟨rfl, hb⟩
          have HB := Hid.mk hb
          clear hb
          go_wp2_with fail
          refine (HF.out u1 HB.out).mono ?_
          rintro e u2 ⟨rfl, hb⟩
          have HB := Hid.mk (HB.out.trans (hb.mono HB.out.size))
          clear hb
          have HXc := Hid.mk (HX.out.keep HB.out)
          have y0 := HXc.out.c0
          have y1 := HXc.out.c1
          have y2 := HXc.out.c2
          have y3 := HXc.out.c3
          have y4 := HXc.out.c4
          go_wp2_with fail
          refine (HG.out u2 HB.out).mono ?_
          rintro e u3 ⟨rfl, hb⟩
          have HB := Hid.mk (HB.out.trans (hb.mono HB.out.size))
          clear hb y0 y1 y2 y3 y4 HXc
          go_wp2_with fail
          refine (HRi.out u3 HB.out).mono ?_
          rintro e u4 ⟨rfl, hb⟩
          have HB := Hid.mk (HB.out.trans (hb.mono HB.out.size))
          clear hb
          have HXc := Hid.mk (HX.out.keep HB.out)
          have y0 := HXc.out.c0
          have y1 := HXc.out.c1
          have y2 := HXc.out.c2
          have y3 := HXc.out.c3
          have y4 := HXc.out.c4
          go_wp2_with fail
          refine (HSe.out u4 HB.out).mono ?_
          rintro e u5 ⟨rfl, hb⟩
          have HB := Hid.mk (HB.out.trans (hb.mono HB.out.size))
          clear hb y0 y1 y2 y3 y4 HXc
          have HXc := Hid.mk (HX.out.keep HB.out)
          have y0 := HXc.out.c0
          have y1 := HXc.out.c1
          have y2 := HXc.out.c2
          have y3 := HXc.out.c3
          have y4 := HXc.out.c4
          go_wp2_with fail
          refine (HCt.out u5 HB.out).mono ?_
          rintro e u6 ⟨rfl, hb⟩
          have HB := Hid.mk (HB.out.trans (hb.mono HB.out.size))
          clear hb y0 y1 y2 y3 y4 HXc
          go_wp2_with fail
          go_loopw [8] (fun i wr => ∃ k : Nat, k ≤ N ∧ i = .int .i64 (k : Int) ∧ Hid (Below w1.heap.size w1 wr)) (fun i _ => N - (intOf i).toNat)
          case atStart => exact ⟨0, Nat.zero_le _, rfl, HB⟩
          case round =>
            obtain ⟨k, hk, rfl, HB⟩ := hrel
            by_cases hlt : k < N
            · have hl1 : (k : Int) < (N : Int) := by omega
              have hi4 : (0 : Int) ≤ (k : Int) := by omega
              have hkl : k < ts.length := by rw [HNN.out]; omega
              obtain ⟨b, off, hio, hbl, hrow⟩ := (HI.out.keep HB.out).row (by omega)
              subst hio
              obtain ⟨ik, inm, itx, iio, iN, iicap, iko, iK, ikcap, ⟨c0, c1, c2, c3, c4⟩, ht⟩ := item_at hrow hkl
              have hv := HV.out.keep HB.out
              have hx := HX.out.keep HB.out
              have HC := Hid.mk (fun (d : Nat) (os : Array Obj) => w_rCmp h ts[k] V _ _ (grow (redrawn wr d) os) (ht.keep (below_regrown wr d os)) (hv.keep (below_regrown wr d os)) (HFA.out _ (List.getElem_mem hkl)) HFV.out)
              have HE : Hid (decide (cmpH h ts[k] V < 0) = decide ((k : Int) < (m : Int))) := by
                show _ = _
                rw [← cV_at hkl]
                by_cases hkm : k < m
                · rw [decide_eq_true (HCut.out.1 k hkm), decide_eq_true (by omega)]
                · have := HCut.out.2 k (by omega) hkl
                  rw [decide_eq_false (by omega), decide_eq_false (by omega)]
              have d0 := hx.c0
              have d1 := hx.c1
              have d2 := hx.c2
              have d3 := hx.c3
              have d4 := hx.c4
              have R0 := fun d os => cell_regrown c0 d os
              have R1 := fun d os => cell_regrown c1 d os
              have R2 := fun d os => cell_regrown c2 d os
              have R3 := fun d os => cell_regrown c3 d os
              have R4 := fun d os => cell_regrown c4 d os
              have S0 := fun d os => cell_regrown d0 d os
              have S1 := fun d os => cell_regrown d1 d os
              have S2 := fun d os => cell_regrown d2 d os
              have S3 := fun d os => cell_regrown d3 d os
              have S4 := fun d os => cell_regrown d4 d os
              generalize cmpH h ts[k] V = c at *
              clear hrow hbl ht hv hx hkl c0 c1 c2 c3 c4 d0 d1 d2 d3 d4
              go_wp2_with fail
              refine wp_region_quiet_below (by kernel_rfl) (by kernel_rfl) ?_
              repeat (go_big_quiet_step (exact Calls.regrown_of (HC.out _ _)))
              refine wpQuiet_nil ?_
              intro u7 hw'
              have HB2 : Hid (Below w1.heap.size w1 u7) := by
                obtain ⟨⟨dq, osq⟩, rfl⟩ := hw'
                exact HB.out.trans ((below_regrown wr dq osq).mono HB.out.size)
              clear hw' R0 R1 R2 R3 R4 S0 S1 S2 S3 S4 HC
              have hE := HE.out
              have hE2 : decide (c < 0) = decide (k < m) := by rw [hE]; by_cases hkm : k < m <;> simp [hkm]
              have b1 : (decide (c < 0) != decide (k < m)) = false := by rw [hE2]; simp
              have b2 : (decide (c < 0) != decide ((k : Int) < (m : Int))) = false := by rw [hE]; simp
              have b3 : (!(decide (c < 0) == decide (k < m))) = false := by rw [hE2]; simp
              clear hE hE2
              (try rw [b1])
              (try rw [b2])
              (try rw [b3])
              clear b1 b2 b3
              go_wp2_with fail
              go_roundw
              case rel => exact ⟨k + 1, by omega, by go_num, HB2⟩
              case measure => simp [intOf]; omega
            · have hl1 : ¬ (k : Int) < (N : Int) := by omega
              have HBw := Hid.mk (below_more HBx.out HB.out)
              go_wp2_with fail
              go_ret
              exact ⟨rfl, HBw.out⟩
        · obtain rfl : q = 0 := by omega
          rw [decide_eq_false h0] at HSe
          clear h0
          go_enter Try.func8, Try.ntmps8
          go_wp2_with fail
          try simp only [hw1]
          clear hw1
          refine (w_OrderKnown w1).mono ?_
          rintro e u1 ⟨rfl, hb⟩
          have HB := Hid.mk hb
          clear hb
          go_wp2_with fail
          refine (HF.out u1 HB.out).mono ?_
          rintro e u2 ⟨rfl, hb⟩
          have HB := Hid.mk (HB.out.trans (hb.mono HB.out.size))
          clear hb
          have HXc := Hid.mk (HX.out.keep HB.out)
          have y0 := HXc.out.c0
          have y1 := HXc.out.c1
          have y2 := HXc.out.c2
          have y3 := HXc.out.c3
          have y4 := HXc.out.c4
          go_wp2_with fail
          refine (HG.out u2 HB.out).mono ?_
          rintro e u3 ⟨rfl, hb⟩
          have HB := Hid.mk (HB.out.trans (hb.mono HB.out.size))
          clear hb y0 y1 y2 y3 y4 HXc
          go_wp2_with fail
          refine (HRi.out u3 HB.out).mono ?_
          rintro e u4 ⟨rfl, hb⟩
          have HB := Hid.mk (HB.out.trans (hb.mono HB.out.size))
          clear hb
          have HXc := Hid.mk (HX.out.keep HB.out)
          have y0 := HXc.out.c0
          have y1 := HXc.out.c1
          have y2 := HXc.out.c2
          have y3 := HXc.out.c3
          have y4 := HXc.out.c4
          go_wp2_with fail
          refine (HSe.out u4 HB.out).mono ?_
          rintro e u5 ⟨rfl, hb⟩
          have HB := Hid.mk (HB.out.trans (hb.mono HB.out.size))
          clear hb y0 y1 y2 y3 y4 HXc
          have HXc := Hid.mk (HX.out.keep HB.out)
          have y0 := HXc.out.c0
          have y1 := HXc.out.c1
          have y2 := HXc.out.c2
          have y3 := HXc.out.c3
          have y4 := HXc.out.c4
          go_wp2_with fail
          refine (HCt.out u5 HB.out).mono ?_
          rintro e u6 ⟨rfl, hb⟩
          have HB := Hid.mk (HB.out.trans (hb.mono HB.out.size))
          clear hb y0 y1 y2 y3 y4 HXc
          go_wp2_with fail
          go_loopw [8] (fun i wr => ∃ k : Nat, k ≤ N ∧ i = .int .i64 (k : Int) ∧ Hid (Below w1.heap.size w1 wr)) (fun i _ => N - (intOf i).toNat)
          case atStart => exact ⟨0, Nat.zero_le _, rfl, HB⟩
          case round =>
            obtain ⟨k, hk, rfl, HB⟩ := hrel
            by_cases hlt : k < N
            · have hl1 : (k : Int) < (N : Int) := by omega
              have hi4 : (0 : Int) ≤ (k : Int) := by omega
              have hkl : k < ts.length := by rw [HNN.out]; omega
              obtain ⟨b, off, hio, hbl, hrow⟩ := (HI.out.keep HB.out).row (by omega)
              subst hio
              obtain ⟨ik, inm, itx, iio, iN, iicap, iko, iK, ikcap, ⟨c0, c1, c2, c3, c4⟩, ht⟩ := item_at hrow hkl
              have hv := HV.out.keep HB.out
              have hx := HX.out.keep HB.out
              have HC := Hid.mk (fun (d : Nat) (os : Array Obj) => w_rCmp h ts[k] V _ _ (grow (redrawn wr d) os) (ht.keep (below_regrown wr d os)) (hv.keep (below_regrown wr d os)) (HFA.out _ (List.getElem_mem hkl)) HFV.out)
              have HE : Hid (decide (cmpH h ts[k] V < 0) = decide ((k : Int) < (m : Int))) := by
                show _ = _
                rw [← cV_at hkl]
                by_cases hkm : k < m
                · rw [decide_eq_true (HCut.out.1 k hkm), decide_eq_true (by omega)]
                · have := HCut.out.2 k (by omega) hkl
                  rw [decide_eq_false (by omega), decide_eq_false (by omega)]
              have d0 := hx.c0
              have d1 := hx.c1
              have d2 := hx.c2
              have d3 := hx.c3
              have d4 := hx.c4
              have R0 := fun d os => cell_regrown c0 d os
              have R1 := fun d os => cell_regrown c1 d os
              have R2 := fun d os => cell_regrown c2 d os
              have R3 := fun d os => cell_regrown c3 d os
              have R4 := fun d os => cell_regrown c4 d os
              have S0 := fun d os => cell_regrown d0 d os
              have S1 := fun d os => cell_regrown d1 d os
              have S2 := fun d os => cell_regrown d2 d os
              have S3 := fun d os => cell_regrown d3 d os
              have S4 := fun d os => cell_regrown d4 d os
              generalize cmpH h ts[k] V = c at *
              clear hrow hbl ht hv hx hkl c0 c1 c2 c3 c4 d0 d1 d2 d3 d4
              go_wp2_with fail
              refine wp_region_quiet_below (by kernel_rfl) (by kernel_rfl) ?_
              repeat (go_big_quiet_step (exact Calls.regrown_of (HC.out _ _)))
              refine wpQuiet_nil ?_
              intro u7 hw'
              have HB2 : Hid (Below w1.heap.size w1 u7) := by
                obtain ⟨⟨dq, osq⟩, rfl⟩ := hw'
                exact HB.out.trans ((below_regrown wr dq osq).mono HB.out.size)
              clear hw' R0 R1 R2 R3 R4 S0 S1 S2 S3 S4 HC
              have hE := HE.out
              have hE2 : decide (c < 0) = decide (k < m) := by rw [hE]; by_cases hkm : k < m <;> simp [hkm]
              have b1 : (decide (c < 0) != decide (k < m)) = false := by rw [hE2]; simp
              have b2 : (decide (c < 0) != decide ((k : Int) < (m : Int))) = false := by rw [hE]; simp
              have b3 : (!(decide (c < 0) == decide (k < m))) = false := by rw [hE2]; simp
              clear hE hE2
              (try rw [b1])
              (try rw [b2])
              (try rw [b3])
              clear b1 b2 b3
              go_wp2_with fail
              go_roundw
              case rel => exact ⟨k + 1, by omega, by go_num, HB2⟩
              case measure => simp [intOf]; omega
            · have hl1 : ¬ (k : Int) < (N : Int) := by omega
              have HBw := Hid.mk (below_more HBx.out HB.out)
              go_wp2_with fail
              go_ret
              exact ⟨rfl, HBw.out⟩
end Go.Proofs.Ytmknelkgfnklfaa
