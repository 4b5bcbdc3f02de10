import Derived.Test.YtmknelkgfnklfaaZZn
namespace Go.Proofs.Ytmknelkgfnklfaa
open Go.RowKit Go.Shelf Go.Sort
set_option linter.unusedVariables false
set_option linter.unusedSimpArgs false
attribute [local go_sem] Oper.semAt_some

theorem bel_up {h : Nat} {ts : List VT} {V : VT} {k : Nat} (hk : k < ts.length) : bel h (ts.take (k + 1)) V = bel h (ts.take k) V + (if cmpH h ts[k] V < 0 then 1 else 0) := by
  unfold bel
  rw [List.take_succ_eq_append_getElem hk, List.filter_append, List.length_append]
  congr 1
  by_cases e : cmpH h ts[k] V < 0
  · rw [if_pos e]; simp [e]
  · rw [if_neg e]; simp [e]

set_option maxRecDepth 100000 in
set_option maxHeartbeats 3200000 in
theorem w_rSearch (h : Nat) (io : Option Addr) (N icap : Nat) (ts : List VT) (V : VT) (a0 a1 a2 a3 a4 : Value) (w : World) (hi : IIn w h io ts) (hN : ts.length = N) (hcap : N ≤ icap) (hN2 : N ≤ 140737488355328) (hV : InH w h V (.agg #[a0, a1, a2, a3, a4])) :
    Calls Try.prog 22 #[.slice io N icap, .agg #[a0, a1, a2, a3, a4]] w fun e w' => e = .returned (.tuple #[.int .i64 (seA h ts V).1, .bool (seA h ts V).2.1, .int .i64 (seA h ts V).2.2]) ∧ Below w.heap.size w w' := by
  obtain ⟨tk, tnm, ttx, tio, tN, ticap, tko, tK, tkcap, rfl, rfl, rfl, rfl, rfl⟩ := hV.shape
  obtain ⟨w1, hw1⟩ : ∃ w1, w.alloc (.cells #[.int .i64 tk, .string tnm, .string ttx, .slice tio tN ticap, .slice tko tK tkcap] 25) = w1 := ⟨_, rfl⟩
  have HBx : Hid (Below w.heap.size w w1) := by subst hw1; exact below1 _ _
  have HX : Hid (VBx w w1 (.int .i64 tk) (.string tnm) (.string ttx) (.slice tio tN ticap) (.slice tko tK tkcap)) := by subst hw1; exact vbx_new _ _ _ _ _ _
  have HI := Hid.mk (hi.keep HBx.out)
  have HV := Hid.mk (hV.keep HBx.out)
  have HNN := Hid.mk hN
  have HF := Hid.mk (fun u (hb : Below w1.heap.size w1 u) => w_All h (w_rFormed h) io N icap ts u (HI.out.keep hb) HNN.out hcap hN2)
  have HG := Hid.mk (fun u (hb : Below w1.heap.size w1 u) => w_rFormed h V _ u (HV.out.keep hb))
  clear hi hN hV
  unfold seA
  have y0 := HX.out.c0
  have y1 := HX.out.c1
  have y2 := HX.out.c2
  have y3 := HX.out.c3
  have y4 := HX.out.c4
  cases hf : ts.all (formN h) with
  | false =>
    rw [hf] at HF
    rw [Bool.false_and, if_neg (by simp)]
    clear hf HG y0 y1 y2 y3 y4
    go_enter Try.func22, Try.ntmps22
    go_wp2_with fail
    try simp only [hw1]
    clear hw1
    refine (HF.out w1 (Below.refl _ _)).mono ?_
    rintro e w2 ⟨rfl, hb2⟩
    have HB1 := Hid.mk hb2
    clear hb2
    go_wp2_with fail
    have HBw := Hid.mk (below_more HBx.out HB1.out)
    refine bodyPost_ret (v := .tuple #[.int .i64 0, .bool false, .int .i64 1]) (by simp [results, Try.results22, go_sem]) rfl ?_
    exact ⟨rfl, HBw.out⟩
  | true =>
    rw [hf] at HF
    have HFA : Hid (∀ T ∈ ts, formN h T = true) := fun T hT => (List.all_eq_true.1 hf) T hT
    have HRi := Hid.mk (fun u (hb : Below w1.heap.size w1 u) => w_rRises h io N icap ts u (HI.out.keep hb) HNN.out hcap hN2 HFA.out)
    cases hg : formN h V with
    | false =>
      rw [hg] at HG
      rw [Bool.and_false, if_neg (by simp)]
      clear hf hg HRi
      go_enter Try.func22, Try.ntmps22
      go_wp2_with fail
      try simp only [hw1]
      clear hw1
      refine (HF.out w1 (Below.refl _ _)).mono ?_
      rintro e w2 ⟨rfl, hb2⟩
      have HB1 := Hid.mk hb2
      have HX2 := Hid.mk (HX.out.keep hb2)
      clear hb2 y0 y1 y2 y3 y4
      have y0 := HX2.out.c0
      have y1 := HX2.out.c1
      have y2 := HX2.out.c2
      have y3 := HX2.out.c3
      have y4 := HX2.out.c4
      go_wp2_with fail
      refine (HG.out w2 HB1.out).mono ?_
      rintro e w3 ⟨rfl, hb3⟩
      have HB3 := Hid.mk (HB1.out.trans (hb3.mono HB1.out.size))
      clear hb3 y0 y1 y2 y3 y4
      go_wp2_with fail
      have HBw := Hid.mk (below_more HBx.out HB3.out)
      refine bodyPost_ret (v := .tuple #[.int .i64 0, .bool false, .int .i64 1]) (by simp [results, Try.results22, go_sem]) rfl ?_
      exact ⟨rfl, HBw.out⟩
    | true =>
      rw [hg] at HG
      have HFV := Hid.mk hg
      rw [Bool.and_true, if_pos rfl]
      cases hr : risB (cK h ts) ts.length with
      | false =>
        rw [HNN.out] at hr
        rw [hr] at HRi
        rw [if_neg (by simp)]
        clear hf hg hr
        go_enter Try.func22, Try.ntmps22
        go_wp2_with fail
        try simp only [hw1]
        clear hw1
        refine (HF.out w1 (Below.refl _ _)).mono ?_
        rintro e w2 ⟨rfl, hb2⟩
        have HB1 := Hid.mk hb2
        have HX2 := Hid.mk (HX.out.keep hb2)
        clear hb2 y0 y1 y2 y3 y4
        have y0 := HX2.out.c0
        have y1 := HX2.out.c1
        have y2 := HX2.out.c2
        have y3 := HX2.out.c3
        have y4 := HX2.out.c4
        go_wp2_with fail
        refine (HG.out w2 HB1.out).mono ?_
        rintro e w3 ⟨rfl, hb3⟩
        have HB3 := Hid.mk (HB1.out.trans (hb3.mono HB1.out.size))
        clear hb3 y0 y1 y2 y3 y4
        go_wp2_with fail
        refine (HRi.out w3 HB3.out).mono ?_
        rintro e w4 ⟨rfl, hb4⟩
        have HB4 := Hid.mk (HB3.out.trans (hb4.mono HB3.out.size))
        clear hb4
        go_wp2_with fail
        have HBw := Hid.mk (below_more HBx.out HB4.out)
        refine bodyPost_ret (v := .tuple #[.int .i64 0, .bool false, .int .i64 2]) (by simp [results, Try.results22, go_sem]) rfl ?_
        exact ⟨rfl, HBw.out⟩
      | true =>
        rw [HNN.out] at hr
        rw [hr] at HRi
        rw [if_pos rfl]
        clear hf hg hr
        rw [HNN.out]
        obtain ⟨m, HM⟩ : ∃ m, Hid (bel h ts V = m) := ⟨_, rfl⟩
        rw [HM.out]
        have hmN : m ≤ N := by rw [← HM.out, ← HNN.out]; exact bel_le ..
        obtain ⟨x, HXX⟩ : ∃ x, Hid ((decide (m < N) && decide (cV h ts V m = 0)) = x) := ⟨_, rfl⟩
        rw [HXX.out]
        go_enter Try.func22, Try.ntmps22
        go_wp2_with fail
        try simp only [hw1]
        clear hw1
        refine (HF.out w1 (Below.refl _ _)).mono ?_
        rintro e w2 ⟨rfl, hb2⟩
        have HB1 := Hid.mk hb2
        have HX2 := Hid.mk (HX.out.keep hb2)
        clear hb2 y0 y1 y2 y3 y4
        have y0 := HX2.out.c0
        have y1 := HX2.out.c1
        have y2 := HX2.out.c2
        have y3 := HX2.out.c3
        have y4 := HX2.out.c4
        go_wp2_with fail
        refine (HG.out w2 HB1.out).mono ?_
        rintro e w3 ⟨rfl, hb3⟩
        have HB3 := Hid.mk (HB1.out.trans (hb3.mono HB1.out.size))
        clear hb3 y0 y1 y2 y3 y4
        go_wp2_with fail
        refine (HRi.out w3 HB3.out).mono ?_
        rintro e w4 ⟨rfl, hb4⟩
        have HB4 := Hid.mk (HB3.out.trans (hb4.mono HB3.out.size))
        clear hb4
        go_wp2_with fail
        have HB0 := HB4
        go_loopw [7, 8] (fun n i wr => ∃ k q : Nat, k ≤ N ∧ q ≤ k ∧ i = .int .i64 (k : Int) ∧ n = .int .i64 (q : Int) ∧ Hid (bel h (ts.take k) V = q) ∧ Hid (Below w1.heap.size w1 wr)) (fun _ i _ => N - (intOf i).toNat)
        case atStart => exact ⟨0, 0, Nat.zero_le _, Nat.le_refl _, rfl, rfl, rfl, HB4⟩
        case round =>
          obtain ⟨k, q, hk, hq, rfl, rfl, HQ, HB⟩ := hrel
          by_cases hlt : k < N
          · have hl1 : (k : Int) < (N : Int) := by omega
            have hi4 : (0 : Int) ≤ (k : Int) := by omega
            have hkl : k < ts.length := by rw [HNN.out]; omega
            obtain ⟨b, off, hio, hbl, hrow⟩ := (HI.out.keep HB.out).row (by omega)
            subst hio
            obtain ⟨ik, inm, itx, iio, iN, iicap, iko, iK, ikcap, ⟨c0, c1, c2, c3, c4⟩, ht⟩ := item_at hrow hkl
            have hv := HV.out.keep HB.out
            have hx := HX.out.keep HB.out
            have HC := Hid.mk (fun (d : Nat) (os : Array Obj) => w_rCmp h ts[k] V _ _ (grow (redrawn wr d) os) (ht.keep (below_regrown wr d os)) (hv.keep (below_regrown wr d os)) (HFA.out _ (List.getElem_mem hkl)) HFV.out)
            have HU := Hid.mk (bel_up (h := h) (V := V) hkl)
            have d0 := hx.c0
            have d1 := hx.c1
            have d2 := hx.c2
            have d3 := hx.c3
            have d4 := hx.c4
            have R0 := fun d os => cell_regrown c0 d os
            have R1 := fun d os => cell_regrown c1 d os
            have R2 := fun d os => cell_regrown c2 d os
            have R3 := fun d os => cell_regrown c3 d os
            have R4 := fun d os => cell_regrown c4 d os
            have S0 := fun d os => cell_regrown d0 d os
            have S1 := fun d os => cell_regrown d1 d os
            have S2 := fun d os => cell_regrown d2 d os
            have S3 := fun d os => cell_regrown d3 d os
            have S4 := fun d os => cell_regrown d4 d os
            generalize cmpH h ts[k] V = c at *
            clear hrow hbl ht hv hx hkl c0 c1 c2 c3 c4 d0 d1 d2 d3 d4
            go_wp2_with fail
            refine wp_region_quiet_below (by kernel_rfl) (by kernel_rfl) ?_
            repeat (go_big_quiet_step (exact Calls.regrown_of (HC.out _ _)))
            refine wpQuiet_nil ?_
            intro w5 hw'
            have HB2 : Hid (Below w1.heap.size w1 w5) := by
              obtain ⟨⟨dq, osq⟩, rfl⟩ := hw'
              exact HB.out.trans ((below_regrown wr dq osq).mono HB.out.size)
            clear hw' R0 R1 R2 R3 R4 S0 S1 S2 S3 S4 HC
            by_cases hc : c < 0
            · have HQ2 : Hid (bel h (ts.take (k + 1)) V = q + 1) := by show _ = _; rw [HU.out, HQ.out, if_pos hc]
              clear HU
              go_wp2_with fail
              go_roundw
              case rel => exact ⟨k + 1, q + 1, by omega, by omega, by go_num, by go_num, HQ2, HB2⟩
              case measure => simp [intOf]; omega
            · have HQ2 : Hid (bel h (ts.take (k + 1)) V = q) := by show _ = _; rw [HU.out, HQ.out, if_neg hc, Nat.add_zero]
              clear HU
              go_wp2_with fail
              go_roundw
              case rel => exact ⟨k + 1, q, by omega, by omega, by go_num, rfl, HQ2, HB2⟩
              case measure => simp [intOf]; omega
          · have hl1 : ¬ (k : Int) < (N : Int) := by omega
            obtain rfl : q = m := by
              have e := HQ.out
              rw [List.take_of_length_le (by rw [HNN.out]; omega)] at e
              exact e.symm.trans HM.out
            by_cases hmlt : q < N
            · have hn1 : (q : Int) < (N : Int) := by omega
              have hn4 : (0 : Int) ≤ (q : Int) := by omega
              have gt : decide ((q : Int) < (N : Int)) = true := decide_eq_true hn1
              have gt2 : decide (q < N) = true := decide_eq_true hmlt
              have hkl : q < ts.length := by rw [HNN.out]; omega
              obtain ⟨b, off, hio, hbl, hrow⟩ := (HI.out.keep HB.out).row (by omega)
              subst hio
              obtain ⟨ik, inm, itx, iio, iN, iicap, iko, iK, ikcap, ⟨c0, c1, c2, c3, c4⟩, ht⟩ := item_at hrow hkl
              have hv := HV.out.keep HB.out
              have hx := HX.out.keep HB.out
              have HC := Hid.mk (fun (d : Nat) (os : Array Obj) => w_rCmp h ts[q] V _ _ (grow (redrawn wr d) os) (ht.keep (below_regrown wr d os)) (hv.keep (below_regrown wr d os)) (HFA.out _ (List.getElem_mem hkl)) HFV.out)
              have HE := Hid.mk (cV_at (h := h) (V := V) hkl)
              have d0 := hx.c0
              have d1 := hx.c1
              have d2 := hx.c2
              have d3 := hx.c3
              have d4 := hx.c4
              have R0 := fun d os => cell_regrown c0 d os
              have R1 := fun d os => cell_regrown c1 d os
              have R2 := fun d os => cell_regrown c2 d os
              have R3 := fun d os => cell_regrown c3 d os
              have R4 := fun d os => cell_regrown c4 d os
              have S0 := fun d os => cell_regrown d0 d os
              have S1 := fun d os => cell_regrown d1 d os
              have S2 := fun d os => cell_regrown d2 d os
              have S3 := fun d os => cell_regrown d3 d os
              have S4 := fun d os => cell_regrown d4 d os
              have HT : Hid (decide (cmpH h ts[q] V = 0) = x) := by
                have e := HXX.out
                rw [gt2, Bool.true_and, HE.out] at e
                exact e
              generalize cmpH h ts[q] V = c at *
              clear hrow hbl ht hv hx hkl HE HXX c0 c1 c2 c3 c4 d0 d1 d2 d3 d4
              go_wp2_with fail
              refine wp_region_quiet_below (by kernel_rfl) (by kernel_rfl) ?_
              repeat (go_big_quiet_step (exact Calls.regrown_of (HC.out _ _)))
              refine wpQuiet_nil ?_
              intro w5 hw'
              have HB2 : Hid (Below w1.heap.size w1 w5) := by
                obtain ⟨⟨dq, osq⟩, rfl⟩ := hw'
                exact HB.out.trans ((below_regrown wr dq osq).mono HB.out.size)
              clear hw' R0 R1 R2 R3 R4 S0 S1 S2 S3 S4 HC
              have HBw := Hid.mk (below_more HBx.out HB2.out)
              go_wp2_with fail
              refine bodyPost_ret (v := .tuple #[.int .i64 (q : Int), .bool (decide (c = 0)), .int .i64 0]) (by simp [results, Try.results22, go_sem]; rfl) rfl ?_
              exact ⟨by rw [HT.out], HBw.out⟩
            · have hn1 : ¬ (q : Int) < (N : Int) := by omega
              have gt : decide ((q : Int) < (N : Int)) = false := decide_eq_false hn1
              have gt2 : decide (q < N) = false := decide_eq_false hmlt
              have HT : Hid (x = false) := by
                have e := HXX.out
                rw [gt2, Bool.false_and] at e
                exact e.symm
              clear HXX
              go_wp2_with fail
              refine wp_region_quiet_below (by kernel_rfl) (by kernel_rfl) ?_
              repeat (go_big_quiet_step (fail))
              refine wpQuiet_nil ?_
              intro w5 hw'
              have HB2 : Hid (Below w1.heap.size w1 w5) := by
                obtain ⟨⟨dq, osq⟩, rfl⟩ := hw'
                exact HB.out.trans ((below_regrown wr dq osq).mono HB.out.size)
              clear hw'
              have HBw := Hid.mk (below_more HBx.out HB2.out)
              go_wp2_with fail
              refine bodyPost_ret (v := .tuple #[.int .i64 (q : Int), .bool false, .int .i64 0]) (by simp [results, Try.results22, go_sem]) rfl ?_
              exact ⟨by rw [HT.out], HBw.out⟩

set_option maxRecDepth 100000 in
set_option maxHeartbeats 3200000 in
theorem w_OrderPlaces (h : Nat) (io : Option Addr) (N icap : Nat) (ts : List VT) (V : VT) (a0 a1 a2 a3 a4 : Value) (w : World) (hi : IIn w h io ts) (hN : ts.length = N) (hcap : N ≤ icap) (hN2 : N ≤ 140737488355328) (hV : InH w h V (.agg #[a0, a1, a2, a3, a4])) :
    Calls Try.prog 4 #[.slice io N icap, .agg #[a0, a1, a2, a3, a4]] w fun e w' => e = .returned (.bool true) ∧ Below w.heap.size w w' := by
  obtain ⟨tk, tnm, ttx, tio, tN, ticap, tko, tK, tkcap, rfl, rfl, rfl, rfl, rfl⟩ := hV.shape
  obtain ⟨w1, hw1⟩ : ∃ w1, w.alloc (.cells #[.int .i64 tk, .string tnm, .string ttx, .slice tio tN ticap, .slice tko tK tkcap] 25) = w1 := ⟨_, rfl⟩
  have HBx : Hid (Below w.heap.size w w1) := by subst hw1; exact below1 _ _
  have HX : Hid (VBx w w1 (.int .i64 tk) (.string tnm) (.string ttx) (.slice tio tN ticap) (.slice tko tK tkcap)) := by subst hw1; exact vbx_new _ _ _ _ _ _
  have HI := Hid.mk (hi.keep HBx.out)
  have HV := Hid.mk (hV.keep HBx.out)
  have H1 := Hid.mk (fun u (hb : Below w1.heap.size w1 u) => w_oLeast h io N icap ts u (HI.out.keep hb) hN hcap hN2)
  have H2 := Hid.mk (fun u (hb : Below w1.heap.size w1 u) => w_oGreatest h io N icap ts u (HI.out.keep hb) hN hcap hN2)
  have H3 := Hid.mk (fun u (hb : Below w1.heap.size w1 u) => w_oSearch h io N icap ts V _ _ _ _ _ u (HI.out.keep hb) hN hcap hN2 (HV.out.keep hb))
  have H4 := Hid.mk (fun u (hb : Below w1.heap.size w1 u) => w_rLeast h io N icap ts u (HI.out.keep hb) hN hcap hN2)
  have H5 := Hid.mk (fun u (hb : Below w1.heap.size w1 u) => w_rGreatest h io N icap ts u (HI.out.keep hb) hN hcap hN2)
  have H6 := Hid.mk (fun u (hb : Below w1.heap.size w1 u) => w_rSearch h io N icap ts V _ _ _ _ _ u (HI.out.keep hb) hN hcap hN2 (HV.out.keep hb))
  clear hi hN hV HI HV
  generalize lstA h ts = r1 at *
  generalize grtA h ts = r2 at *
  generalize shE h ts = r3 at *
  generalize (seA h ts V).1 = s1 at *
  generalize (seA h ts V).2.1 = s2 at *
  generalize (seA h ts V).2.2 = s3 at *
  have g1 : (r1 != r1) = false := by simp
  have g2 : (r2 != r2) = false := by simp
  have g3 : (r3 != r3) = false := by simp
  have g4 : (s1 != s1) = false := by simp
  have g5 : (s2 != s2) = false := by simp
  have g6 : (s3 != s3) = false := by simp
  go_enter Try.func4, Try.ntmps4
  go_wp2_with fail
  try simp only [hw1]
  clear hw1
  refine (H1.out w1 (Below.refl _ _)).mono ?_
  rintro e u1 ⟨rfl, hb1⟩
  have HB := Hid.mk hb1
  clear hb1
  go_wp2_with fail
  refine (H2.out u1 HB.out).mono ?_
  rintro e u2 ⟨rfl, hb⟩
  have HB := Hid.mk (HB.out.trans (hb.mono HB.out.size))
  clear hb
  have HXc := Hid.mk (HX.out.keep HB.out)
  have y0 := HXc.out.c0
  have y1 := HXc.out.c1
  have y2 := HXc.out.c2
  have y3 := HXc.out.c3
  have y4 := HXc.out.c4
  go_wp2_with fail
  refine (H3.out u2 HB.out).mono ?_
  rintro e u3 ⟨rfl, hb⟩
  have HB := Hid.mk (HB.out.trans (hb.mono HB.out.size))
  clear hb
  clear y0 y1 y2 y3 y4 HXc
  go_wp2_with fail
  refine (H4.out u3 HB.out).mono ?_
  rintro e u4 ⟨rfl, hb⟩
  have HB := Hid.mk (HB.out.trans (hb.mono HB.out.size))
  clear hb
  go_wp2_with fail
  refine (H5.out u4 HB.out).mono ?_
  rintro e u5 ⟨rfl, hb⟩
  have HB := Hid.mk (HB.out.trans (hb.mono HB.out.size))
  clear hb
  have HXc := Hid.mk (HX.out.keep HB.out)
  have y0 := HXc.out.c0
  have y1 := HXc.out.c1
  have y2 := HXc.out.c2
  have y3 := HXc.out.c3
  have y4 := HXc.out.c4
  go_wp2_with fail
  refine (H6.out u5 HB.out).mono ?_
  rintro e u6 ⟨rfl, hb⟩
  have HB := Hid.mk (HB.out.trans (hb.mono HB.out.size))
  clear hb
  clear y0 y1 y2 y3 y4 HXc
  go_wp2_with fail
  refine (w_OrderKnown u6).mono ?_
  rintro e u7 ⟨rfl, hb⟩
  have HB := Hid.mk (HB.out.trans (hb.mono HB.out.size))
  have HBw := Hid.mk (below_more HBx.out HB.out)
  clear hb
  go_wp2_with fail
  go_ret
  exact ⟨rfl, HBw.out⟩
end Go.Proofs.Ytmknelkgfnklfaa
