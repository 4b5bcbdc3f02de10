import Derived.Test.YtdmkfdaddacdhaaGreatDoorZSXj
namespace Go.Proofs.YtdmkfdaddacdhaaGreatDoor
open Go.RowKit Go.Shelf Go.Sort
set_option linter.unusedVariables false
set_option linter.unusedSimpArgs false
attribute [local go_sem] Oper.semAt_some

/-- two boxes -/
structure Bb (w : World) (ca cb : Array Value) (t : TypeId) (W : World) : Prop where
  below : Below w.heap.size w W
  lt : w.heap.size + 1 < W.heap.size
  a : W.heap[w.heap.size]? = some (.cells ca t (0, 0))
  b : W.heap[w.heap.size + 1]? = some (.cells cb t (0, 0))
theorem Bb.new {w W : World} {ca cb : Array Value} {t : TypeId} (h : (w.alloc (.cells ca t)).alloc (.cells cb t) = W) : Bb w ca cb t W := by
  subst h
  refine ⟨(below1 w _).alloc (by simp) _, by simp, (Below.heap_alloc _ _ _ (by simp)).trans (heap_alloc_new w _), ?_⟩
  have := heap_alloc_new (w.alloc (.cells ca t)) (.cells cb t)
  rwa [World.size_alloc] at this
theorem Bb.keep {w W W' : World} {ca cb : Array Value} {t : TypeId} (h : Bb w ca cb t W) (hb : Below W.heap.size W W') : Bb w ca cb t W' :=
  ⟨h.below.trans (hb.mono h.below.size), Nat.lt_of_lt_of_le h.lt hb.size, (hb.block _ (Nat.lt_trans (Nat.lt_succ_self _) h.lt)).trans h.a, (hb.block _ h.lt).trans h.b⟩
theorem Bb.ca {w W : World} {ca cb : Array Value} {t : TypeId} (h : Bb w ca cb t W) {j : Nat} {v : Value} (e : ca[j]? = some v) : W.cell? ⟨w.heap.size, j, none⟩ = some v := by rw [cell_of_row _ _ _ _ _ _ h.a]; exact e
theorem Bb.cb {w W : World} {ca cb : Array Value} {t : TypeId} (h : Bb w ca cb t W) {j : Nat} {v : Value} (e : cb[j]? = some v) : W.cell? ⟨w.heap.size + 1, j, none⟩ = some v := by rw [cell_of_row _ _ _ _ _ _ h.b]; exact e

def RaOk (h : Nat) : Prop := ∀ (A B : VT) (va vb : Value) (w : World), InH w h A va → InH w h B vb → Calls Tryz.prog 31 #[va, vb] w fun e w' => e = .returned (.bool (sq A B)) ∧ Below w.heap.size w w'

set_option maxRecDepth 100000 in
set_option maxHeartbeats 6400000 in
theorem ral_step (h : Nat) (ih : RaOk h) : RaOk (h + 1) := by
  rintro ⟨ka, an, ax, aI, aK⟩ ⟨kb, bn, bx, bI, bK⟩ va vb w ⟨aio, aic, ako, akc, rfl, _, _, la, lk, ca, ck, _, hka, hia⟩ ⟨bio, bic, bko, bkc, rfl, _, _, lb, lj, cb, cj, _, hkb, hib⟩
  simp only [VT.kind, VT.num, VT.text, VT.items, VT.keys] at *
  obtain ⟨R, HR⟩ : ∃ R, Hid (sq (VT.mk ka an ax aI aK) (VT.mk kb bn bx bI bK) = R) := ⟨_, rfl⟩
  rw [HR.out]
  have HKa := Hid.mk hka
  have HKb := Hid.mk hkb
  have HI : Hid (∀ (k : Nat) (h1 : k < aI.length) (h2 : k < bI.length), ∃ b off b2 off2 e0 e1 e2 e3 e4 f0 f1 f2 f3 f4, aio = some ⟨b, off, none⟩ ∧ bio = some ⟨b2, off2, none⟩ ∧ ∀ u, Below w.heap.size w u → u.cell? ⟨b, off + k * 5, none⟩ = some e0 ∧ u.cell? ⟨b, off + k * 5 + 1, none⟩ = some e1 ∧ u.cell? ⟨b, off + k * 5 + 2, none⟩ = some e2 ∧ u.cell? ⟨b, off + k * 5 + 3, none⟩ = some e3 ∧ u.cell? ⟨b, off + k * 5 + 4, none⟩ = some e4 ∧ u.cell? ⟨b2, off2 + k * 5, none⟩ = some f0 ∧ u.cell? ⟨b2, off2 + k * 5 + 1, none⟩ = some f1 ∧ u.cell? ⟨b2, off2 + k * 5 + 2, none⟩ = some f2 ∧ u.cell? ⟨b2, off2 + k * 5 + 3, none⟩ = some f3 ∧ u.cell? ⟨b2, off2 + k * 5 + 4, none⟩ = some f4 ∧ ∀ u', Below u.heap.size u u' → Calls Tryz.prog 31 #[.agg #[e0, e1, e2, e3, e4], .agg #[f0, f1, f2, f3, f4]] u' fun e w' => e = .returned (.bool (sq aI[k] bI[k])) ∧ Below u'.heap.size u' w') := fun k h1 h2 => by
    obtain ⟨b, off, e1, hl1, hr1⟩ := hia (by omega)
    obtain ⟨b2, off2, e2, hl2, hr2⟩ := hib (by omega)
    obtain ⟨e0, e1', e2', e3, e4, ⟨p0, p1, p2, p3, p4⟩, i1⟩ := hr1 k h1
    obtain ⟨f0, f1, f2, f3, f4, ⟨q0, q1, q2, q3, q4⟩, i2⟩ := hr2 k h2
    refine ⟨b, off, b2, off2, e0, e1', e2', e3, e4, f0, f1, f2, f3, f4, e1, e2, fun u hu => ?_⟩
    have cc : ∀ g o v, g < w.heap.size → w.cell? ⟨g, o, none⟩ = some v → u.cell? ⟨g, o, none⟩ = some v := fun g o v hg h => (hu.cell (p := ⟨g, o, none⟩) hg).trans h
    exact ⟨cc _ _ _ hl1 p0, cc _ _ _ hl1 p1, cc _ _ _ hl1 p2, cc _ _ _ hl1 p3, cc _ _ _ hl1 p4, cc _ _ _ hl2 q0, cc _ _ _ hl2 q1, cc _ _ _ hl2 q2, cc _ _ _ hl2 q3, cc _ _ _ hl2 q4, fun u' hu' => ih _ _ _ _ u' ((i1.keep hu).keep hu') ((i2.keep hu).keep hu')⟩
  have HM : Hid (aI.length ≤ aic ∧ bI.length ≤ bic ∧ aI.length ≤ 140737488355328 ∧ bI.length ≤ 140737488355328) := ⟨ca, cb, la, lb⟩
  have HM2 : Hid (aK.length ≤ akc ∧ bK.length ≤ bkc ∧ aK.length ≤ 140737488355328 ∧ bK.length ≤ 140737488355328) := ⟨ck, cj, lk, lj⟩
  clear hka hia hkb hib la lk ca ck lb lj cb cj
  obtain ⟨W1, hW1⟩ : ∃ W1, (w.alloc (.cells #[.int .i64 ka, .string an, .string ax, .slice aio aI.length aic, .slice ako aK.length akc] 25)).alloc (.cells #[.int .i64 kb, .string bn, .string bx, .slice bio bI.length bic, .slice bko bK.length bkc] 25) = W1 := ⟨_, rfl⟩
  have HX := Hid.mk (Bb.new hW1)
  have x0 := HX.out.ca (j := 0) rfl
  have y0 := HX.out.cb (j := 0) rfl
  have x1 := HX.out.ca (j := 1) rfl
  have y1 := HX.out.cb (j := 1) rfl
  have x2 := HX.out.ca (j := 2) rfl
  have y2 := HX.out.cb (j := 2) rfl
  have x3 := HX.out.ca (j := 3) rfl
  have y3 := HX.out.cb (j := 3) rfl
  have x4 := HX.out.ca (j := 4) rfl
  have y4 := HX.out.cb (j := 4) rfl
  by_cases hk : ka = kb
  rotate_left
  · have HT : Hid (R = false) := HR.out.symm.trans (sq_no (fun e => hk (VT.mk.inj e).1))
    have g1 : (ka != kb) = true := by simpa using hk
    go_enter Tryz.func31, Tryz.ntmps31
    go_wp2_with fail
    go_ret
    exact ⟨by rw [HT.out]; rfl, HX.out.below⟩
  subst hk
  have g1 : (ka != ka) = false := by simp
  by_cases hn : an = bn
  rotate_left
  · have HT : Hid (R = false) := HR.out.symm.trans (sq_no (fun e => hn (VT.mk.inj e).2.1))
    have g2 : (an.toList == bn.toList) = false := by cases hc : (an.toList == bn.toList) with
      | true => exact absurd (beqQ_yes hc) hn
      | false => rfl
    have g2x : (an.toList != bn.toList) = true := by simp only [bne]; rw [g2]; rfl
    go_enter Tryz.func31, Tryz.ntmps31
    go_wp2_with fail
    go_ret
    exact ⟨by rw [HT.out]; rfl, HX.out.below⟩
  subst hn
  have g2 : (an.toList != an.toList) = false := by simp
  by_cases hx : ax = bx
  rotate_left
  · have HT : Hid (R = false) := HR.out.symm.trans (sq_no (fun e => hx (VT.mk.inj e).2.2.1))
    have g3 : (ax.toList == bx.toList) = false := by cases hc : (ax.toList == bx.toList) with
      | true => exact absurd (beqQ_yes hc) hx
      | false => rfl
    have g3x : (ax.toList != bx.toList) = true := by simp only [bne]; rw [g3]; rfl
    go_enter Tryz.func31, Tryz.ntmps31
    go_wp2_with fail
    go_ret
    exact ⟨by rw [HT.out]; rfl, HX.out.below⟩
  subst hx
  have g3 : (ax.toList != ax.toList) = false := by simp
  by_cases hl : aI.length = bI.length
  rotate_left
  · have HT : Hid (R = false) := HR.out.symm.trans (sq_no (fun e => hl (congrArg List.length (VT.mk.inj e).2.2.2.1)))
    have g4 : ((aI.length : Int) != (bI.length : Int)) = true := by simp; omega
    go_enter Tryz.func31, Tryz.ntmps31
    go_wp2_with fail
    go_ret
    exact ⟨by rw [HT.out]; rfl, HX.out.below⟩
  have g4 : ((aI.length : Int) != (bI.length : Int)) = false := by simp; omega
  have HL := Hid.mk hl
  clear hl
  by_cases hl : aK.length = bK.length
  rotate_left
  · have HT : Hid (R = false) := HR.out.symm.trans (sq_no (fun e => hl (congrArg List.length (VT.mk.inj e).2.2.2.2)))
    have g5 : ((aK.length : Int) != (bK.length : Int)) = true := by simp; omega
    go_enter Tryz.func31, Tryz.ntmps31
    go_wp2_with fail
    go_ret
    exact ⟨by rw [HT.out]; rfl, HX.out.below⟩
  have g5 : ((aK.length : Int) != (bK.length : Int)) = false := by simp; omega
  have HLK := Hid.mk hl
  clear hl
  obtain ⟨N, hN⟩ : ∃ N, N = aI.length := ⟨_, rfl⟩
  obtain ⟨NK, hNK⟩ : ∃ N, N = aK.length := ⟨_, rfl⟩
  have HN : Hid (N = aI.length ∧ N = bI.length) := ⟨hN, hN.trans HL.out⟩
  have HNK : Hid (NK = aK.length ∧ NK = bK.length) := ⟨hNK, hNK.trans HLK.out⟩
  rw [← HN.out.1, ← HN.out.2] at HM g4
  rw [← HNK.out.1, ← HNK.out.2] at HM2 g5
  simp only [← HN.out.1, ← HNK.out.1] at HX x3 x4 hW1
  simp only [← HN.out.2, ← HNK.out.2] at HX y3 y4 hW1
  simp only [← HN.out.1, ← HNK.out.1, ← HN.out.2, ← HNK.out.2]
  have hcap := HM.out.1
  have hcap2 := HM.out.2.1
  have hbig := HM.out.2.2.1
  have hcap3 := HM2.out.1
  have hcap4 := HM2.out.2.1
  have hbig2 := HM2.out.2.2.1
  clear hN hNK
  go_enter Tryz.func31, Tryz.ntmps31
  go_wp2_with fail
  have HX2 := HX
  clear hW1 x0 y0 x1 y1 x2 y2 x3 y3 x4 y4
  go_loopw [5] (fun i wr => ∃ k : Nat, k ≤ NK ∧ i = .int .i64 (k : Int) ∧ Hid (Bb w #[.int .i64 ka, .string an, .string ax, .slice aio N aic, .slice ako NK akc] #[.int .i64 ka, .string an, .string ax, .slice bio N bic, .slice bko NK bkc] 25 wr) ∧ Hid (aK.take k = bK.take k)) (fun i _ => NK - (intOf i).toNat)
  case atStart => exact ⟨0, Nat.zero_le _, rfl, HX2, rfl⟩
  case round =>
    obtain ⟨k, hk, rfl, HBw, HQ⟩ := hrel
    have t3 := HBw.out.ca (j := 4) rfl
    have u3 := HBw.out.cb (j := 4) rfl
    by_cases hlt : k < NK
    · have hl1 : (k : Int) < (NK : Int) := by omega
      have hl0 : (0 : Int) ≤ (k : Int) := by omega
      have hkx : k < aK.length := by rw [← HNK.out.1]; exact hlt
      have hky : k < bK.length := by rw [← HNK.out.2]; exact hlt
      obtain ⟨b, off, hao, hbl, hrow⟩ := (HKa.out.keep HBw.out.below).row (by omega)
      obtain ⟨b2, off2, hbo, hbl2, hrow2⟩ := (HKb.out.keep HBw.out.below).row (by omega)
      have c0 := hrow k hkx
      have d0 := hrow2 k hky
      rw [getD_keyQ hkx] at c0
      rw [getD_keyQ hky] at d0
      rw [hao] at t3
      rw [hbo] at u3
      have HUp := Hid.mk (fun e => takeQ_up hkx hky HQ.out e)
      have HNo := Hid.mk (fun e => takeQ_no hkx hky e)
      generalize aK[k] = x at *
      generalize bK[k] = y at *
      have R0 := fun d os => cell_regrown c0 d os
      have S0 := fun d os => cell_regrown d0 d os
      have T3 := fun d os => cell_regrown t3 d os
      have U3 := fun d os => cell_regrown u3 d os
      clear hrow hrow2 hbl hbl2 hkx hky c0 d0 hao hbo
      cases hc : (x.toList == y.toList) with
      | true =>
        have HQ2 := Hid.mk (HUp.out (beqQ_yes hc))
        have hc2 : (x.toList != y.toList) = false := by simp only [bne]; rw [hc]; rfl
        clear HUp HNo
        go_wp2_with fail
        refine wp_region_quiet_below (by kernel_rfl) (by kernel_rfl) ?_
        repeat (go_big_quiet_step (fail))
        refine wpQuiet_nil ?_
        intro w3 hw'
        have HB3 : Hid (Bb w #[.int .i64 ka, .string an, .string ax, .slice aio N aic, .slice ako NK akc] #[.int .i64 ka, .string an, .string ax, .slice bio N bic, .slice bko NK bkc] 25 w3) := by
          obtain ⟨⟨dq, osq⟩, rfl⟩ := hw'
          exact HBw.out.keep (below_regrown wr dq osq)
        clear hw' R0 S0 T3 U3 t3 u3
        go_wp2_with fail
        go_roundw
        case rel => exact ⟨k + 1, by omega, by go_num, HB3, HQ2⟩
        case measure => simp [intOf]; omega
      | false =>
        have HT : Hid (R = false) := HR.out.symm.trans (sq_no (fun e => HNo.out (beqQ_no hc) ((VT.mk.inj e).2.2.2.2)))
        have hc2 : (x.toList != y.toList) = true := by simp only [bne]; rw [hc]; rfl
        clear HUp HNo
        go_wp2_with fail
        refine wp_region_quiet_below (by kernel_rfl) (by kernel_rfl) ?_
        repeat (go_big_quiet_step (fail))
        refine wpQuiet_nil ?_
        intro w3 hw'
        have HB3 : Hid (Bb w #[.int .i64 ka, .string an, .string ax, .slice aio N aic, .slice ako NK akc] #[.int .i64 ka, .string an, .string ax, .slice bio N bic, .slice bko NK bkc] 25 w3) := by
          obtain ⟨⟨dq, osq⟩, rfl⟩ := hw'
          exact HBw.out.keep (below_regrown wr dq osq)
        clear hw' R0 S0 T3 U3 t3 u3
        go_wp2_with fail
        go_ret
        exact ⟨by rw [HT.out]; rfl, HB3.out.below⟩
    · have hl1 : ¬ (k : Int) < (NK : Int) := by omega
      have HKK : Hid (aK = bK) := by
        have e := HQ.out
        rw [List.take_of_length_le (by rw [← HNK.out.1]; omega), List.take_of_length_le (by rw [← HNK.out.2]; omega)] at e
        exact e
      clear HQ
      go_wp2_with fail
      clear t3 u3 hk hlt hl1
      have HBs := HBw
      clear HBw
      go_loopw [6] (fun i wr => ∃ k : Nat, k ≤ N ∧ i = .int .i64 (k : Int) ∧ Hid (Bb w #[.int .i64 ka, .string an, .string ax, .slice aio N aic, .slice ako NK akc] #[.int .i64 ka, .string an, .string ax, .slice bio N bic, .slice bko NK bkc] 25 wr) ∧ Hid (aI.take k = bI.take k)) (fun i _ => N - (intOf i).toNat)
      case atStart => exact ⟨0, Nat.zero_le _, rfl, HBs, rfl⟩
      case round =>
        obtain ⟨k, hk, rfl, HBw, HQ⟩ := hrel
        have t3 := HBw.out.ca (j := 3) rfl
        have u3 := HBw.out.cb (j := 3) rfl
        by_cases hlt : k < N
        · have hl1 : (k : Int) < (N : Int) := by omega
          have hl0 : (0 : Int) ≤ (k : Int) := by omega
          have hkx : k < aI.length := by rw [← HN.out.1]; exact hlt
          have hky : k < bI.length := by rw [← HN.out.2]; exact hlt
          obtain ⟨b, off, b2, off2, e0, e1, e2, e3, e4, f0, f1, f2, f3, f4, qq1, qq2, HCj⟩ := HI.out k hkx hky
          rw [qq1] at t3
          rw [qq2] at u3
          obtain ⟨z0, z1, z2, z3, z4, z5, z6, z7, z8, z9, HCk⟩ := HCj wr HBw.out.below
          have HCr : Hid (∀ d os, Calls Tryz.prog 31 #[.agg #[e0, e1, e2, e3, e4], .agg #[f0, f1, f2, f3, f4]] (grow (redrawn wr d) os) fun e w' => e = .returned (.bool (sq aI[k] bI[k])) ∧ Below (grow (redrawn wr d) os).heap.size (grow (redrawn wr d) os) w') := fun d os => HCk _ (below_regrown wr d os)
          have T3 := fun d os => cell_regrown t3 d os
          have U3 := fun d os => cell_regrown u3 d os
          have Z0 := fun d os => cell_regrown z0 d os
          have Z1 := fun d os => cell_regrown z1 d os
          have Z2 := fun d os => cell_regrown z2 d os
          have Z3 := fun d os => cell_regrown z3 d os
          have Z4 := fun d os => cell_regrown z4 d os
          have Z5 := fun d os => cell_regrown z5 d os
          have Z6 := fun d os => cell_regrown z6 d os
          have Z7 := fun d os => cell_regrown z7 d os
          have Z8 := fun d os => cell_regrown z8 d os
          have Z9 := fun d os => cell_regrown z9 d os
          clear HCk HCj qq1 qq2 z0 z1 z2 z3 z4 z5 z6 z7 z8 z9
          have HUp := Hid.mk (fun e => takeQ_up hkx hky HQ.out e)
          have HNo := Hid.mk (fun e => takeQ_no hkx hky e)
          by_cases he : aI[k] = bI[k]
          · have HQ2 := Hid.mk (HUp.out he)
            rw [sq_iff.2 he] at HCr
            clear HUp HNo he hkx hky
            go_wp2_with fail
            refine wp_region_quiet_below (by kernel_rfl) (by kernel_rfl) ?_
            repeat (go_big_quiet_step (exact Calls.regrown_of (HCr.out _ _)))
            refine wpQuiet_nil ?_
            intro w3 hw'
            have HB3 : Hid (Bb w #[.int .i64 ka, .string an, .string ax, .slice aio N aic, .slice ako NK akc] #[.int .i64 ka, .string an, .string ax, .slice bio N bic, .slice bko NK bkc] 25 w3) := by
              obtain ⟨⟨dq, osq⟩, rfl⟩ := hw'
              exact HBw.out.keep (below_regrown wr dq osq)
            clear hw' T3 U3 t3 u3 Z0 Z1 Z2 Z3 Z4 Z5 Z6 Z7 Z8 Z9
            go_wp2_with fail
            go_roundw
            case rel => exact ⟨k + 1, by omega, by go_num, HB3, HQ2⟩
            case measure => simp [intOf]; omega
          · have HT : Hid (R = false) := HR.out.symm.trans (sq_no (fun e => HNo.out he (VT.mk.inj e).2.2.2.1))
            rw [sq_no he] at HCr
            clear HUp HNo he hkx hky
            go_wp2_with fail
            refine wp_region_quiet_below (by kernel_rfl) (by kernel_rfl) ?_
            repeat (go_big_quiet_step (exact Calls.regrown_of (HCr.out _ _)))
            refine wpQuiet_nil ?_
            intro w3 hw'
            have HB3 : Hid (Bb w #[.int .i64 ka, .string an, .string ax, .slice aio N aic, .slice ako NK akc] #[.int .i64 ka, .string an, .string ax, .slice bio N bic, .slice bko NK bkc] 25 w3) := by
              obtain ⟨⟨dq, osq⟩, rfl⟩ := hw'
              exact HBw.out.keep (below_regrown wr dq osq)
            clear hw' T3 U3 t3 u3 Z0 Z1 Z2 Z3 Z4 Z5 Z6 Z7 Z8 Z9
            go_wp2_with fail
            go_ret
            exact ⟨by rw [HT.out]; rfl, HB3.out.below⟩
        · have hl1 : ¬ (k : Int) < (N : Int) := by omega
          have HT : Hid (R = true) := by
            have e := HQ.out
            rw [List.take_of_length_le (by rw [← HN.out.1]; omega), List.take_of_length_le (by rw [← HN.out.2]; omega)] at e
            refine HR.out.symm.trans (sq_iff.2 ?_)
            rw [e, HKK.out]
          go_wp2_with fail
          go_ret
          exact ⟨by rw [HT.out]; rfl, HBw.out.below⟩
theorem w_rAlike : ∀ h, RaOk h
  | 0 => fun _ _ _ _ _ hA _ => hA.elim
  | h + 1 => ral_step h (w_rAlike h)
end Go.Proofs.YtdmkfdaddacdhaaGreatDoor
