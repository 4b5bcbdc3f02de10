import Derived.Test.YtmknelkgfnklfaaZZm
namespace Go.Proofs.Ytmknelkgfnklfaa
open Go.RowKit Go.Shelf Go.Sort
set_option linter.unusedVariables false
set_option linter.unusedSimpArgs false
attribute [local go_sem] Oper.semAt_some

set_option maxRecDepth 100000 in
set_option maxHeartbeats 3200000 in
theorem w_lRises (h : Nat) (io : Option Addr) (N icap : Nat) (ts : List VT) (w : World) (hi : IIn w h io ts) (hN : ts.length = N) (hcap : N ≤ icap) (hN2 : N ≤ 140737488355328) (hf : ∀ T ∈ ts, formN h T = true) :
    Calls Try.prog 24 #[.slice io N icap] w fun e w' => e = .returned (.bool (risB (cK h ts) N)) ∧ Below w.heap.size w w' := by
  have HI := Hid.mk hi
  have HNN := Hid.mk hN
  have HF := Hid.mk hf
  clear hi hN hf
  obtain ⟨R, HR⟩ : ∃ R, Hid (risB (cK h ts) N = R) := ⟨_, rfl⟩
  rw [HR.out]
  go_enter Try.func24, Try.ntmps24
  go_wp2_with fail
  go_loopw [3] (fun i wr => ∃ k : Nat, k ≤ N ∧ i = .int .i64 ((k : Int) + 1) ∧ Hid (Below w.heap.size w wr) ∧ Hid (∀ j : Nat, j < k → j + 1 < N → 0 ≤ cK h ts (j + 1) j)) (fun i _ => N + 1 - (intOf i).toNat)
  case atStart => exact ⟨0, Nat.zero_le _, rfl, Below.refl _ _, fun j hj _ => absurd hj (Nat.not_lt_zero _)⟩
  case round =>
    obtain ⟨k, hk, rfl, HB, HQ⟩ := hrel
    by_cases hlt : k + 1 < N
    · have hl1 : (k : Int) + 1 < (N : Int) := by omega
      have hk1 : k + 1 < ts.length := by rw [HNN.out]; omega
      have hk0 : k < ts.length := by omega
      obtain ⟨b, off, hio, hbl, hrow⟩ := (HI.out.keep HB.out).row (by omega)
      subst hio
      obtain ⟨ik, inm, itx, iio, iN, iicap, iko, iK, ikcap, ⟨c0, c1, c2, c3, c4⟩, ht⟩ := item_at hrow hk1
      obtain ⟨jk, jnm, jtx, jio, jN, jicap, jko, jK, jkcap, ⟨d0, d1, d2, d3, d4⟩, hu⟩ := item_at hrow hk0
      have f1 := HF.out _ (List.getElem_mem hk1)
      have f0 := HF.out _ (List.getElem_mem hk0)
      have HC := Hid.mk (fun (d : Nat) (os : Array Obj) => w_rCmp h ts[k] ts[k + 1] _ _ (grow (redrawn wr d) os) (hu.keep (below_regrown wr d os)) (ht.keep (below_regrown wr d os)) f0 f1)
      have HE : Hid (0 ≤ cK h ts (k + 1) k ↔ ¬ cmpH h ts[k] ts[k + 1] > 0) := by
        have e := cK_at (h := h) hk1 hk0
        have s := (cmpH_ord h).sw _ _ f1 f0
        show _ ↔ _
        rw [e]
        constructor <;> intro hh <;> omega
      have hi1 : (k : Int) < (N : Int) := by omega
      have hi3 : (0 : Int) ≤ (k : Int) + 1 := by omega
      have hi4 : (0 : Int) ≤ (k : Int) := by omega
      have R0 := fun d os => cell_regrown c0 d os
      have R1 := fun d os => cell_regrown c1 d os
      have R2 := fun d os => cell_regrown c2 d os
      have R3 := fun d os => cell_regrown c3 d os
      have R4 := fun d os => cell_regrown c4 d os
      have S0 := fun d os => cell_regrown d0 d os
      have S1 := fun d os => cell_regrown d1 d os
      have S2 := fun d os => cell_regrown d2 d os
      have S3 := fun d os => cell_regrown d3 d os
      have S4 := fun d os => cell_regrown d4 d os
      generalize cmpH h ts[k] ts[k + 1] = c at *
      clear hrow hbl ht hu hk1 hk0 c0 c1 c2 c3 c4 d0 d1 d2 d3 d4 f1 f0
      go_wp2_with fail
      refine wp_region_quiet_below (by kernel_rfl) (by kernel_rfl) ?_
      repeat (go_big_quiet_step (exact Calls.regrown_of (HC.out _ _)))
      refine wpQuiet_nil ?_
      intro w2 hw'
      have HB2 : Hid (Below w.heap.size w w2) := by
        obtain ⟨⟨dq, osq⟩, rfl⟩ := hw'
        exact HB.out.trans ((below_regrown wr dq osq).mono HB.out.size)
      clear hw' R0 R1 R2 R3 R4 S0 S1 S2 S3 S4 HC
      by_cases hc : c > 0
      · have HT : Hid (R = false) := HR.out.symm.trans (risB_false (j := k) hlt (by
          by_cases h0 : cK h ts (k + 1) k < 0
          · exact h0
          · have := HE.out.1 (by omega); omega))
        go_wp2_with fail
        go_ret
        exact ⟨by rw [HT.out]; rfl, HB2.out⟩
      · have HQ2 : Hid (∀ j : Nat, j < k + 1 → j + 1 < N → 0 ≤ cK h ts (j + 1) j) := fun j h1 h2 => by
          by_cases e : j = k
          · subst e; exact HE.out.2 (by omega)
          · exact HQ.out j (by omega) h2
        go_wp2_with fail
        go_roundw
        case rel => exact ⟨k + 1, by omega, by go_num, HB2, HQ2⟩
        case measure => simp [intOf]; omega
    · have hl1 : ¬ (k : Int) + 1 < (N : Int) := by omega
      have HT : Hid (R = true) := HR.out.symm.trans (risB_true fun j hj => HQ.out j (by omega) hj)
      go_wp2_with fail
      go_ret
      exact ⟨by rw [HT.out]; rfl, HB.out⟩

set_option maxRecDepth 100000 in
set_option maxHeartbeats 3200000 in
theorem w_rRises (h : Nat) (io : Option Addr) (N icap : Nat) (ts : List VT) (w : World) (hi : IIn w h io ts) (hN : ts.length = N) (hcap : N ≤ icap) (hN2 : N ≤ 140737488355328) (hf : ∀ T ∈ ts, formN h T = true) :
    Calls Try.prog 42 #[.slice io N icap] w fun e w' => e = .returned (.bool (risB (cK h ts) N)) ∧ Below w.heap.size w w' := by
  have HI := Hid.mk hi
  have HNN := Hid.mk hN
  have HF := Hid.mk hf
  clear hi hN hf
  obtain ⟨R, HR⟩ : ∃ R, Hid (risB (cK h ts) N = R) := ⟨_, rfl⟩
  rw [HR.out]
  go_enter Try.func42, Try.ntmps42
  go_wp2_with fail
  go_loopw [3] (fun i wr => ∃ k : Nat, k ≤ N ∧ i = .int .i64 ((k : Int) + 1) ∧ Hid (Below w.heap.size w wr) ∧ Hid (∀ j : Nat, j < k → j + 1 < N → 0 ≤ cK h ts (j + 1) j)) (fun i _ => N + 1 - (intOf i).toNat)
  case atStart => exact ⟨0, Nat.zero_le _, rfl, Below.refl _ _, fun j hj _ => absurd hj (Nat.not_lt_zero _)⟩
  case round =>
    obtain ⟨k, hk, rfl, HB, HQ⟩ := hrel
    by_cases hlt : k + 1 < N
    · have hl1 : (k : Int) + 1 < (N : Int) := by omega
      have hk1 : k + 1 < ts.length := by rw [HNN.out]; omega
      have hk0 : k < ts.length := by omega
      obtain ⟨b, off, hio, hbl, hrow⟩ := (HI.out.keep HB.out).row (by omega)
      subst hio
      obtain ⟨ik, inm, itx, iio, iN, iicap, iko, iK, ikcap, ⟨c0, c1, c2, c3, c4⟩, ht⟩ := item_at hrow hk1
      obtain ⟨jk, jnm, jtx, jio, jN, jicap, jko, jK, jkcap, ⟨d0, d1, d2, d3, d4⟩, hu⟩ := item_at hrow hk0
      have f1 := HF.out _ (List.getElem_mem hk1)
      have f0 := HF.out _ (List.getElem_mem hk0)
      have HC := Hid.mk (fun (d : Nat) (os : Array Obj) => w_rCmp h ts[k + 1] ts[k] _ _ (grow (redrawn wr d) os) (ht.keep (below_regrown wr d os)) (hu.keep (below_regrown wr d os)) f1 f0)
      have HE : Hid (0 ≤ cK h ts (k + 1) k ↔ ¬ cmpH h ts[k + 1] ts[k] < 0) := by
        have e := cK_at (h := h) hk1 hk0
        have s := (cmpH_ord h).sw _ _ f1 f0
        show _ ↔ _
        rw [e]
        constructor <;> intro hh <;> omega
      have hi1 : (k : Int) < (N : Int) := by omega
      have hi3 : (0 : Int) ≤ (k : Int) + 1 := by omega
      have hi4 : (0 : Int) ≤ (k : Int) := by omega
      have R0 := fun d os => cell_regrown c0 d os
      have R1 := fun d os => cell_regrown c1 d os
      have R2 := fun d os => cell_regrown c2 d os
      have R3 := fun d os => cell_regrown c3 d os
      have R4 := fun d os => cell_regrown c4 d os
      have S0 := fun d os => cell_regrown d0 d os
      have S1 := fun d os => cell_regrown d1 d os
      have S2 := fun d os => cell_regrown d2 d os
      have S3 := fun d os => cell_regrown d3 d os
      have S4 := fun d os => cell_regrown d4 d os
      generalize cmpH h ts[k + 1] ts[k] = c at *
      clear hrow hbl ht hu hk1 hk0 c0 c1 c2 c3 c4 d0 d1 d2 d3 d4 f1 f0
      go_wp2_with fail
      refine wp_region_quiet_below (by kernel_rfl) (by kernel_rfl) ?_
      repeat (go_big_quiet_step (exact Calls.regrown_of (HC.out _ _)))
      refine wpQuiet_nil ?_
      intro w2 hw'
      have HB2 : Hid (Below w.heap.size w w2) := by
        obtain ⟨⟨dq, osq⟩, rfl⟩ := hw'
        exact HB.out.trans ((below_regrown wr dq osq).mono HB.out.size)
      clear hw' R0 R1 R2 R3 R4 S0 S1 S2 S3 S4 HC
      by_cases hc : c < 0
      · have HT : Hid (R = false) := HR.out.symm.trans (risB_false (j := k) hlt (by
          by_cases h0 : cK h ts (k + 1) k < 0
          · exact h0
          · have := HE.out.1 (by omega); omega))
        go_wp2_with fail
        go_ret
        exact ⟨by rw [HT.out]; rfl, HB2.out⟩
      · have HQ2 : Hid (∀ j : Nat, j < k + 1 → j + 1 < N → 0 ≤ cK h ts (j + 1) j) := fun j h1 h2 => by
          by_cases e : j = k
          · subst e; exact HE.out.2 (by omega)
          · exact HQ.out j (by omega) h2
        go_wp2_with fail
        go_roundw
        case rel => exact ⟨k + 1, by omega, by go_num, HB2, HQ2⟩
        case measure => simp [intOf]; omega
    · have hl1 : ¬ (k : Int) + 1 < (N : Int) := by omega
      have HT : Hid (R = true) := HR.out.symm.trans (risB_true fun j hj => HQ.out j (by omega) hj)
      go_wp2_with fail
      go_ret
      exact ⟨by rw [HT.out]; rfl, HB.out⟩

/-- how often a value stands in a row -/
noncomputable def cnt (ts : List VT) (V : VT) : Nat := (ts.filter fun t => sm t V).length
theorem cnt_up {ts : List VT} {V : VT} {k : Nat} (h : k < ts.length) : cnt (ts.take (k + 1)) V = cnt (ts.take k) V + (if sm ts[k] V = true then 1 else 0) := by
  unfold cnt
  rw [List.take_succ_eq_append_getElem h, List.filter_append, List.length_append]
  congr 1
  by_cases e : sm ts[k] V = true
  · rw [if_pos e]; simp [e]
  · rw [if_neg e]; simp [e]
theorem cnt_le (ts : List VT) (V : VT) : cnt ts V ≤ ts.length := List.length_filter_le ..

set_option maxRecDepth 100000 in
set_option maxHeartbeats 3200000 in
theorem w_count (h : Nat) (io : Option Addr) (N icap : Nat) (ts : List VT) (V : VT) (a0 a1 a2 a3 a4 : Value) (w : World) (hi : IIn w h io ts) (hN : ts.length = N) (hcap : N ≤ icap) (hN2 : N ≤ 140737488355328) (hV : InH w h V (.agg #[a0, a1, a2, a3, a4])) :
    Calls Try.prog 25 #[.slice io N icap, .agg #[a0, a1, a2, a3, a4]] w fun e w' => e = .returned (.int .i64 ((cnt ts V : Nat) : Int)) ∧ Below w.heap.size w w' := by
  obtain ⟨tk, tnm, ttx, tio, tN, ticap, tko, tK, tkcap, rfl, rfl, rfl, rfl, rfl⟩ := hV.shape
  obtain ⟨w1, hw1⟩ : ∃ w1, w.alloc (.cells #[.int .i64 tk, .string tnm, .string ttx, .slice tio tN ticap, .slice tko tK tkcap] 25) = w1 := ⟨_, rfl⟩
  have HBx : Hid (Below w.heap.size w w1) := by subst hw1; exact below1 _ _
  have HX : Hid (VBx w w1 (.int .i64 tk) (.string tnm) (.string ttx) (.slice tio tN ticap) (.slice tko tK tkcap)) := by subst hw1; exact vbx_new _ _ _ _ _ _
  have HI := Hid.mk (hi.keep HBx.out)
  have HV := Hid.mk (hV.keep HBx.out)
  have HNN := Hid.mk hN
  clear hi hN hV
  obtain ⟨R, HR⟩ : ∃ R, Hid (cnt ts V = R) := ⟨_, rfl⟩
  rw [HR.out]
  go_enter Try.func25, Try.ntmps25
  go_wp2_with fail
  try simp only [hw1]
  clear hw1
  go_loopw [5, 6] (fun n i wr => ∃ k m : Nat, k ≤ N ∧ m ≤ k ∧ i = .int .i64 (k : Int) ∧ n = .int .i64 (m : Int) ∧ Hid (cnt (ts.take k) V = m) ∧ Hid (Below w1.heap.size w1 wr)) (fun _ i _ => N - (intOf i).toNat)
  case atStart => exact ⟨0, 0, Nat.zero_le _, Nat.le_refl _, rfl, rfl, rfl, Below.refl _ _⟩
  case round =>
    obtain ⟨k, m, hk, hm, rfl, rfl, HM, HB⟩ := hrel
    by_cases hlt : k < N
    · have hl1 : (k : Int) < (N : Int) := by omega
      have hi4 : (0 : Int) ≤ (k : Int) := by omega
      have hkl : k < ts.length := by rw [HNN.out]; omega
      obtain ⟨b, off, hio, hbl, hrow⟩ := (HI.out.keep HB.out).row (by omega)
      subst hio
      obtain ⟨ik, inm, itx, iio, iN, iicap, iko, iK, ikcap, ⟨c0, c1, c2, c3, c4⟩, ht⟩ := item_at hrow hkl
      have hv := HV.out.keep HB.out
      have hx := HX.out.keep HB.out
      have HC := Hid.mk (fun (d : Nat) (os : Array Obj) => w_SameValue h ts[k] V _ _ (grow (redrawn wr d) os) (ht.keep (below_regrown wr d os)) (hv.keep (below_regrown wr d os)))
      have HU := Hid.mk (cnt_up (V := V) hkl)
      have d0 := hx.c0
      have d1 := hx.c1
      have d2 := hx.c2
      have d3 := hx.c3
      have d4 := hx.c4
      have R0 := fun d os => cell_regrown c0 d os
      have R1 := fun d os => cell_regrown c1 d os
      have R2 := fun d os => cell_regrown c2 d os
      have R3 := fun d os => cell_regrown c3 d os
      have R4 := fun d os => cell_regrown c4 d os
      have S0 := fun d os => cell_regrown d0 d os
      have S1 := fun d os => cell_regrown d1 d os
      have S2 := fun d os => cell_regrown d2 d os
      have S3 := fun d os => cell_regrown d3 d os
      have S4 := fun d os => cell_regrown d4 d os
      generalize sm ts[k] V = q at *
      clear hrow hbl ht hv hx hkl c0 c1 c2 c3 c4 d0 d1 d2 d3 d4
      go_wp2_with fail
      refine wp_region_quiet_below (by kernel_rfl) (by kernel_rfl) ?_
      repeat (go_big_quiet_step (exact Calls.regrown_of (HC.out _ _)))
      refine wpQuiet_nil ?_
      intro w2 hw'
      have HB2 : Hid (Below w1.heap.size w1 w2) := by
        obtain ⟨⟨dq, osq⟩, rfl⟩ := hw'
        exact HB.out.trans ((below_regrown wr dq osq).mono HB.out.size)
      clear hw' R0 R1 R2 R3 R4 S0 S1 S2 S3 S4 HC
      cases q with
      | true =>
        have HM2 : Hid (cnt (ts.take (k + 1)) V = m + 1) := by show _ = _; rw [HU.out, HM.out, if_pos rfl]
        clear HU
        go_wp2_with fail
        go_roundw
        case rel => exact ⟨k + 1, m + 1, by omega, by omega, by go_num, by go_num, HM2, HB2⟩
        case measure => simp [intOf]; omega
      | false =>
        have HM2 : Hid (cnt (ts.take (k + 1)) V = m) := by show _ = _; rw [HU.out, HM.out, if_neg (by simp), Nat.add_zero]
        clear HU
        go_wp2_with fail
        go_roundw
        case rel => exact ⟨k + 1, m, by omega, by omega, by go_num, rfl, HM2, HB2⟩
        case measure => simp [intOf]; omega
    · have hl1 : ¬ (k : Int) < (N : Int) := by omega
      have HT : Hid (m = R) := by
        have e := HM.out
        rw [List.take_of_length_le (by rw [HNN.out]; omega)] at e
        exact e.symm.trans HR.out
      have HBw := Hid.mk (below_more HBx.out HB.out)
      go_wp2_with fail
      go_ret
      exact ⟨by rw [HT.out]; rfl, HBw.out⟩

set_option maxRecDepth 100000 in
set_option maxHeartbeats 3200000 in
theorem w_rLeast (h : Nat) (io : Option Addr) (N icap : Nat) (ts : List VT) (w : World) (hi : IIn w h io ts) (hN : ts.length = N) (hcap : N ≤ icap) (hN2 : N ≤ 140737488355328) :
    Calls Try.prog 20 #[.slice io N icap] w fun e w' => e = .returned (.tuple #[.int .i64 (lstA h ts), .int .i64 (shE h ts)]) ∧ Below w.heap.size w w' := by
  have HF0 := Hid.mk (w_All h (w_rFormed h) io N icap ts w hi hN hcap hN2)
  have HI := Hid.mk hi
  have HNN := Hid.mk hN
  clear hi hN
  cases hf : ts.all (formN h) with
  | false =>
    rw [hf] at HF0
    have e1 : lstA h ts = 0 := by unfold lstA; rw [hf, if_neg (by simp)]
    have e2 : shE h ts = 1 := by unfold shE; rw [hf, if_neg (by simp)]
    rw [e1, e2]
    clear e1 e2 hf
    go_enter Try.func20, Try.ntmps20
    go_wp2_with fail
    refine HF0.out.mono ?_
    rintro e w1 ⟨rfl, hb1⟩
    have HB1 := Hid.mk hb1
    clear hb1 HF0
    go_wp2_with fail
    go_ret2
    exact ⟨rfl, HB1.out⟩
  | true =>
    rw [hf] at HF0
    have HFA : Hid (∀ T ∈ ts, formN h T = true) := fun T hT => List.all_eq_true.1 hf T hT
    have e2 : shE h ts = 0 := by unfold shE; rw [hf, if_pos rfl]
    have e1 : lstA h ts = fmF (fun i j => decide (cK h ts i j < 0)) N := by unfold lstA; rw [hf, if_pos rfl, HNN.out]
    rw [e1, e2]
    clear e1 e2 hf
    obtain ⟨p, HP⟩ : ∃ p : Nat → Nat → Bool, Hid (p = fun i j => decide (cK h ts i j < 0)) := ⟨_, rfl⟩
    rw [← HP.out]
    obtain ⟨R, HR⟩ : ∃ R, Hid (fmF p N = R) := ⟨_, rfl⟩
    rw [HR.out]
    go_enter Try.func20, Try.ntmps20
    go_wp2_with fail
    refine HF0.out.mono ?_
    rintro e w1 ⟨rfl, hb1⟩
    have HB1 := Hid.mk hb1
    clear hb1 HF0
    go_wp2_with fail
    go_loopw [4, 5] (fun a i wr => ∃ k : Nat, k ≤ N ∧ i = .int .i64 (k : Int) ∧ ∃ z : Int, a = .int .i64 z ∧ Hid (fmF p k = z) ∧ Hid (Below w.heap.size w wr)) (fun _ i _ => N - (intOf i).toNat)
    case atStart => exact ⟨0, Nat.zero_le _, rfl, -1, rfl, rfl, HB1⟩
    case round =>
      obtain ⟨k, hk, rfl, z, rfl, HZ, HB⟩ := hrel
      by_cases hlt : k < N
      · have hl1 : (k : Int) < (N : Int) := by omega
        have hl0 : (0 : Int) ≤ (k : Int) := by omega
        have hkl : k < ts.length := by rw [HNN.out]; exact hlt
        rcases fmF_bd p k with ⟨hk0, hz⟩ | hz
        · obtain rfl : z = -1 := by rw [← HZ.out]; exact hz
          have HZ2 : Hid (fmF p (k + 1) = (k : Int)) := by show (if _ then _ else _) = _; rw [if_pos (.inl (by omega))]
          clear hz hkl hk0
          go_wp2_with fail
          refine wp_region_quiet_below (by kernel_rfl) (by kernel_rfl) ?_
          repeat (go_big_quiet_step (fail))
          refine wpQuiet_nil ?_
          intro w2 hw'
          have HB2 : Hid (Below w.heap.size w w2) := by
            obtain ⟨⟨dq, osq⟩, rfl⟩ := hw'
            exact HB.out.trans ((below_regrown wr dq osq).mono HB.out.size)
          clear hw'
          go_wp2_with fail
          go_roundw
          case rel => exact ⟨k + 1, by omega, by go_num, (k : Int), rfl, HZ2, HB2⟩
          case measure => simp [intOf]; omega
        · rw [HZ.out] at hz
          obtain ⟨m, rfl⟩ : ∃ m : Nat, z = (m : Int) := ⟨z.toNat, by omega⟩
          have hml : m < ts.length := by omega
          obtain ⟨b, off, hio, hbl, hrow⟩ := (HI.out.keep HB.out).row (by omega)
          subst hio
          obtain ⟨ik, inm, itx, iio, iN, iicap, iko, iK, ikcap, ⟨c0, c1, c2, c3, c4⟩, ht⟩ := item_at hrow hkl
          obtain ⟨jk, jnm, jtx, jio, jN, jicap, jko, jK, jkcap, ⟨d0, d1, d2, d3, d4⟩, hu⟩ := item_at hrow hml
          have HC := Hid.mk (fun (d : Nat) (os : Array Obj) => w_rCmp h ts[k] ts[m] _ _ (grow (redrawn wr d) os) (ht.keep (below_regrown wr d os)) (hu.keep (below_regrown wr d os)) (HFA.out _ (List.getElem_mem hkl)) (HFA.out _ (List.getElem_mem hml)))
          have HE : Hid (p k m = decide (cmpH h ts[k] ts[m] < 0)) := by show _ = _; rw [HP.out]; show decide (cK h ts k m < 0) = _; rw [cK_at hkl hml]
          have hi1 : (m : Int) < (N : Int) := by omega
          have hi4 : (0 : Int) ≤ (m : Int) := by omega
          have hn4 : ¬ (m : Int) < 0 := by omega
          have g4 : decide ((m : Int) < 0) = false := decide_eq_false hn4
          have HZ2 : Hid (p k m = true → fmF p (k + 1) = (k : Int)) := fun e => by show (if _ then _ else _) = _; rw [HZ.out, if_pos (.inr e)]
          have HZ3 : Hid (p k m = false → fmF p (k + 1) = (m : Int)) := fun e => by
            show (if _ then _ else _) = _
            rw [HZ.out, if_neg (fun h => by rcases h with h | h; exact absurd h hn4; rw [show ((m : Int)).toNat = m from rfl, e] at h; cases h)]
          have R0 := fun d os => cell_regrown c0 d os
          have R1 := fun d os => cell_regrown c1 d os
          have R2 := fun d os => cell_regrown c2 d os
          have R3 := fun d os => cell_regrown c3 d os
          have R4 := fun d os => cell_regrown c4 d os
          have S0 := fun d os => cell_regrown d0 d os
          have S1 := fun d os => cell_regrown d1 d os
          have S2 := fun d os => cell_regrown d2 d os
          have S3 := fun d os => cell_regrown d3 d os
          have S4 := fun d os => cell_regrown d4 d os
          generalize cmpH h ts[k] ts[m] = c at *
          generalize p k m = t at *
          clear hz hrow hbl ht hu hkl hml c0 c1 c2 c3 c4 d0 d1 d2 d3 d4
          go_wp2_with fail
          refine wp_region_quiet_below (by kernel_rfl) (by kernel_rfl) ?_
          repeat (go_big_quiet_step (exact Calls.regrown_of (HC.out _ _)))
          refine wpQuiet_nil ?_
          intro w2 hw'
          have HB2 : Hid (Below w.heap.size w w2) := by
            obtain ⟨⟨dq, osq⟩, rfl⟩ := hw'
            exact HB.out.trans ((below_regrown wr dq osq).mono HB.out.size)
          clear hw' R0 R1 R2 R3 R4 S0 S1 S2 S3 S4 HC
          by_cases hc : c < 0
          · have HZ4 := Hid.mk (HZ2.out (HE.out.trans (decide_eq_true hc)))
            clear HZ2 HZ3 HE
            go_wp2_with fail
            go_roundw
            case rel => exact ⟨k + 1, by omega, by go_num, (k : Int), rfl, HZ4, HB2⟩
            case measure => simp [intOf]; omega
          · have HZ4 := Hid.mk (HZ3.out (HE.out.trans (decide_eq_false hc)))
            clear HZ2 HZ3 HE
            go_wp2_with fail
            go_roundw
            case rel => exact ⟨k + 1, by omega, by go_num, (m : Int), rfl, HZ4, HB2⟩
            case measure => simp [intOf]; omega
      · have hl1 : ¬ (k : Int) < (N : Int) := by omega
        have HT : Hid (z = R) := by
          have e : k = N := by omega
          subst e
          exact HZ.out.symm.trans HR.out
        go_wp2_with fail
        go_ret2
        exact ⟨by rw [HT.out]; rfl, HB.out⟩

set_option maxRecDepth 100000 in
set_option maxHeartbeats 3200000 in
theorem w_rGreatest (h : Nat) (io : Option Addr) (N icap : Nat) (ts : List VT) (w : World) (hi : IIn w h io ts) (hN : ts.length = N) (hcap : N ≤ icap) (hN2 : N ≤ 140737488355328) :
    Calls Try.prog 21 #[.slice io N icap] w fun e w' => e = .returned (.tuple #[.int .i64 (grtA h ts), .int .i64 (shE h ts)]) ∧ Below w.heap.size w w' := by
  have HF0 := Hid.mk (w_All h (w_rFormed h) io N icap ts w hi hN hcap hN2)
  have HI := Hid.mk hi
  have HNN := Hid.mk hN
  clear hi hN
  cases hf : ts.all (formN h) with
  | false =>
    rw [hf] at HF0
    have e1 : grtA h ts = 0 := by unfold grtA; rw [hf, if_neg (by simp)]
    have e2 : shE h ts = 1 := by unfold shE; rw [hf, if_neg (by simp)]
    rw [e1, e2]
    clear e1 e2 hf
    go_enter Try.func21, Try.ntmps21
    go_wp2_with fail
    refine HF0.out.mono ?_
    rintro e w1 ⟨rfl, hb1⟩
    have HB1 := Hid.mk hb1
    clear hb1 HF0
    go_wp2_with fail
    go_ret2
    exact ⟨rfl, HB1.out⟩
  | true =>
    rw [hf] at HF0
    have HFA : Hid (∀ T ∈ ts, formN h T = true) := fun T hT => List.all_eq_true.1 hf T hT
    have e2 : shE h ts = 0 := by unfold shE; rw [hf, if_pos rfl]
    have e1 : grtA h ts = fmF (fun i j => decide (0 ≤ cK h ts i j)) N := by unfold grtA; rw [hf, if_pos rfl, HNN.out]
    rw [e1, e2]
    clear e1 e2 hf
    obtain ⟨p, HP⟩ : ∃ p : Nat → Nat → Bool, Hid (p = fun i j => decide (0 ≤ cK h ts i j)) := ⟨_, rfl⟩
    rw [← HP.out]
    obtain ⟨R, HR⟩ : ∃ R, Hid (fmF p N = R) := ⟨_, rfl⟩
    rw [HR.out]
    go_enter Try.func21, Try.ntmps21
    go_wp2_with fail
    refine HF0.out.mono ?_
    rintro e w1 ⟨rfl, hb1⟩
    have HB1 := Hid.mk hb1
    clear hb1 HF0
    go_wp2_with fail
    go_loopw [4, 5] (fun a i wr => ∃ k : Nat, k ≤ N ∧ i = .int .i64 (k : Int) ∧ ∃ z : Int, a = .int .i64 z ∧ Hid (fmF p k = z) ∧ Hid (Below w.heap.size w wr)) (fun _ i _ => N - (intOf i).toNat)
    case atStart => exact ⟨0, Nat.zero_le _, rfl, -1, rfl, rfl, HB1⟩
    case round =>
      obtain ⟨k, hk, rfl, z, rfl, HZ, HB⟩ := hrel
      by_cases hlt : k < N
      · have hl1 : (k : Int) < (N : Int) := by omega
        have hl0 : (0 : Int) ≤ (k : Int) := by omega
        have hkl : k < ts.length := by rw [HNN.out]; exact hlt
        rcases fmF_bd p k with ⟨hk0, hz⟩ | hz
        · obtain rfl : z = -1 := by rw [← HZ.out]; exact hz
          have HZ2 : Hid (fmF p (k + 1) = (k : Int)) := by show (if _ then _ else _) = _; rw [if_pos (.inl (by omega))]
          clear hz hkl hk0
          go_wp2_with fail
          refine wp_region_quiet_below (by kernel_rfl) (by kernel_rfl) ?_
          repeat (go_big_quiet_step (fail))
          refine wpQuiet_nil ?_
          intro w2 hw'
          have HB2 : Hid (Below w.heap.size w w2) := by
            obtain ⟨⟨dq, osq⟩, rfl⟩ := hw'
            exact HB.out.trans ((below_regrown wr dq osq).mono HB.out.size)
          clear hw'
          go_wp2_with fail
          go_roundw
          case rel => exact ⟨k + 1, by omega, by go_num, (k : Int), rfl, HZ2, HB2⟩
          case measure => simp [intOf]; omega
        · rw [HZ.out] at hz
          obtain ⟨m, rfl⟩ : ∃ m : Nat, z = (m : Int) := ⟨z.toNat, by omega⟩
          have hml : m < ts.length := by omega
          obtain ⟨b, off, hio, hbl, hrow⟩ := (HI.out.keep HB.out).row (by omega)
          subst hio
          obtain ⟨ik, inm, itx, iio, iN, iicap, iko, iK, ikcap, ⟨c0, c1, c2, c3, c4⟩, ht⟩ := item_at hrow hkl
          obtain ⟨jk, jnm, jtx, jio, jN, jicap, jko, jK, jkcap, ⟨d0, d1, d2, d3, d4⟩, hu⟩ := item_at hrow hml
          have HC := Hid.mk (fun (d : Nat) (os : Array Obj) => w_rCmp h ts[k] ts[m] _ _ (grow (redrawn wr d) os) (ht.keep (below_regrown wr d os)) (hu.keep (below_regrown wr d os)) (HFA.out _ (List.getElem_mem hkl)) (HFA.out _ (List.getElem_mem hml)))
          have HE : Hid (p k m = decide (0 ≤ cmpH h ts[k] ts[m])) := by show _ = _; rw [HP.out]; show decide (0 ≤ cK h ts k m) = _; rw [cK_at hkl hml]
          have hi1 : (m : Int) < (N : Int) := by omega
          have hi4 : (0 : Int) ≤ (m : Int) := by omega
          have hn4 : ¬ (m : Int) < 0 := by omega
          have g4 : decide ((m : Int) < 0) = false := decide_eq_false hn4
          have HZ2 : Hid (p k m = true → fmF p (k + 1) = (k : Int)) := fun e => by show (if _ then _ else _) = _; rw [HZ.out, if_pos (.inr e)]
          have HZ3 : Hid (p k m = false → fmF p (k + 1) = (m : Int)) := fun e => by
            show (if _ then _ else _) = _
            rw [HZ.out, if_neg (fun h => by rcases h with h | h; exact absurd h hn4; rw [show ((m : Int)).toNat = m from rfl, e] at h; cases h)]
          have R0 := fun d os => cell_regrown c0 d os
          have R1 := fun d os => cell_regrown c1 d os
          have R2 := fun d os => cell_regrown c2 d os
          have R3 := fun d os => cell_regrown c3 d os
          have R4 := fun d os => cell_regrown c4 d os
          have S0 := fun d os => cell_regrown d0 d os
          have S1 := fun d os => cell_regrown d1 d os
          have S2 := fun d os => cell_regrown d2 d os
          have S3 := fun d os => cell_regrown d3 d os
          have S4 := fun d os => cell_regrown d4 d os
          generalize cmpH h ts[k] ts[m] = c at *
          generalize p k m = t at *
          clear hz hrow hbl ht hu hkl hml c0 c1 c2 c3 c4 d0 d1 d2 d3 d4
          go_wp2_with fail
          refine wp_region_quiet_below (by kernel_rfl) (by kernel_rfl) ?_
          repeat (go_big_quiet_step (exact Calls.regrown_of (HC.out _ _)))
          refine wpQuiet_nil ?_
          intro w2 hw'
          have HB2 : Hid (Below w.heap.size w w2) := by
            obtain ⟨⟨dq, osq⟩, rfl⟩ := hw'
            exact HB.out.trans ((below_regrown wr dq osq).mono HB.out.size)
          clear hw' R0 R1 R2 R3 R4 S0 S1 S2 S3 S4 HC
          by_cases hc : 0 ≤ c
          · have HZ4 := Hid.mk (HZ2.out (HE.out.trans (decide_eq_true hc)))
            clear HZ2 HZ3 HE
            go_wp2_with fail
            go_roundw
            case rel => exact ⟨k + 1, by omega, by go_num, (k : Int), rfl, HZ4, HB2⟩
            case measure => simp [intOf]; omega
          · have HZ4 := Hid.mk (HZ3.out (HE.out.trans (decide_eq_false hc)))
            clear HZ2 HZ3 HE
            go_wp2_with fail
            go_roundw
            case rel => exact ⟨k + 1, by omega, by go_num, (m : Int), rfl, HZ4, HB2⟩
            case measure => simp [intOf]; omega
      · have hl1 : ¬ (k : Int) < (N : Int) := by omega
        have HT : Hid (z = R) := by
          have e : k = N := by omega
          subst e
          exact HZ.out.symm.trans HR.out
        go_wp2_with fail
        go_ret2
        exact ⟨by rw [HT.out]; rfl, HB.out⟩

end Go.Proofs.Ytmknelkgfnklfaa
