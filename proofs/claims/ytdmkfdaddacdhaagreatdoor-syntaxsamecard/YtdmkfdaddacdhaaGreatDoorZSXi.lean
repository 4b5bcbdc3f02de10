import Derived.Test.YtdmkfdaddacdhaaGreatDoorZSXh
namespace Go.Proofs.YtdmkfdaddacdhaaGreatDoor
open Go.RowKit Go.Shelf Go.Sort
set_option linter.unusedVariables false
set_option linter.unusedSimpArgs false
attribute [local go_sem] Oper.semAt_some

/-- a value stands at a place -/
def VAt (w : World) (h : Nat) (A : VT) (g o : Nat) : Prop := ∃ v0 v1 v2 v3 v4 : Value, (w.cell? ⟨g, o, none⟩ = some v0 ∧ w.cell? ⟨g, o + 1, none⟩ = some v1 ∧ w.cell? ⟨g, o + 2, none⟩ = some v2 ∧ w.cell? ⟨g, o + 3, none⟩ = some v3 ∧ w.cell? ⟨g, o + 4, none⟩ = some v4) ∧ InH w h A (.agg #[v0, v1, v2, v3, v4])
theorem VAt.keep {w w' : World} {h : Nat} {A : VT} {g o : Nat} (hv : VAt w h A g o) (hb : Below w.heap.size w w') : VAt w' h A g o := by
  obtain ⟨v0, v1, v2, v3, v4, ⟨c0, c1, c2, c3, c4⟩, hi⟩ := hv
  have hl := block_lt_of_cell c0
  have cc : ∀ k u, w.cell? ⟨g, k, none⟩ = some u → w'.cell? ⟨g, k, none⟩ = some u := fun k u h3 => (hb.cell (p := ⟨g, k, none⟩) hl).trans h3
  exact ⟨v0, v1, v2, v3, v4, ⟨cc _ _ c0, cc _ _ c1, cc _ _ c2, cc _ _ c3, cc _ _ c4⟩, hi.keep hb⟩
def AlOk (h : Nat) : Prop := ∀ (A B : VT) (ga oa gb ob : Nat) (w : World), VAt w h A ga oa → VAt w h B gb ob → Calls Tryz.prog 63 #[.pointer (some ⟨ga, oa, none⟩), .pointer (some ⟨gb, ob, none⟩)] w fun e w' => e = .returned (.bool (sq A B)) ∧ Below w.heap.size w w'

set_option maxRecDepth 100000 in
set_option maxHeartbeats 6400000 in
theorem al_step (h : Nat) (ih : AlOk h) : AlOk (h + 1) := by
  rintro ⟨ka, an, ax, aI, aK⟩ ⟨kb, bn, bx, bI, bK⟩ ga oa gb ob w ⟨a0, a1, a2, a3, a4, ⟨p0, p1, p2, p3, p4⟩, hA⟩ ⟨b0, b1, b2, b3, b4, ⟨q0, q1, q2, q3, q4⟩, hB⟩
  obtain ⟨aio, aic, ako, akc, ea, _, _, la, lk, ca, ck, _, hka, hia⟩ := hA
  obtain ⟨bio, bic, bko, bkc, eb, _, _, lb, lj, cb, cj, _, hkb, hib⟩ := hB
  simp only [Value.agg.injEq, Array.mk.injEq, List.cons.injEq, and_true] at ea eb
  obtain ⟨rfl, rfl, rfl, rfl, rfl⟩ := ea
  obtain ⟨rfl, rfl, rfl, rfl, rfl⟩ := eb
  simp only [VT.kind, VT.num, VT.text, VT.items, VT.keys] at *
  obtain ⟨R, HR⟩ : ∃ R, Hid (sq (VT.mk ka an ax aI aK) (VT.mk kb bn bx bI bK) = R) := ⟨_, rfl⟩
  rw [HR.out]
  have HK : Hid (∀ u, Below w.heap.size w u → Calls Tryz.prog 64 #[.slice ako aK.length akc, .slice bko bK.length bkc] u fun e w' => e = .returned (.bool (sq aK bK)) ∧ Below u.heap.size u w') := fun u hu => w_EqualS ako _ akc aK bko _ bkc bK u (hka.keep hu) (hkb.keep hu) rfl rfl ck cj lk lj
  have HI : Hid (∀ (k : Nat) (h1 : k < aI.length) (h2 : k < bI.length), ∃ b off b2 off2, aio = some ⟨b, off, none⟩ ∧ bio = some ⟨b2, off2, none⟩ ∧ ∀ u, Below w.heap.size w u → Calls Tryz.prog 63 #[.pointer (some ⟨b, off + k * 5, none⟩), .pointer (some ⟨b2, off2 + k * 5, none⟩)] u fun e w' => e = .returned (.bool (sq aI[k] bI[k])) ∧ Below u.heap.size u w') := fun k h1 h2 => by
    obtain ⟨b, off, e1, hl1, hr1⟩ := hia (by omega)
    obtain ⟨b2, off2, e2, hl2, hr2⟩ := hib (by omega)
    exact ⟨b, off, b2, off2, e1, e2, fun u hu => ih aI[k] bI[k] b (off + k * 5) b2 (off2 + k * 5) u (VAt.keep (hr1 k h1) hu) (VAt.keep (hr2 k h2) hu)⟩
  have P0 := fun d os => cell_regrown p0 d os
  have P1 := fun d os => cell_regrown p1 d os
  have P2 := fun d os => cell_regrown p2 d os
  have P3 := fun d os => cell_regrown p3 d os
  have P4 := fun d os => cell_regrown p4 d os
  have Q0 := fun d os => cell_regrown q0 d os
  have Q1 := fun d os => cell_regrown q1 d os
  have Q2 := fun d os => cell_regrown q2 d os
  have Q3 := fun d os => cell_regrown q3 d os
  have Q4 := fun d os => cell_regrown q4 d os
  have HKr : Hid (∀ d os, Calls Tryz.prog 64 #[.slice ako aK.length akc, .slice bko bK.length bkc] (grow (redrawn w d) os) fun e w' => e = .returned (.bool (sq aK bK)) ∧ Below (grow (redrawn w d) os).heap.size (grow (redrawn w d) os) w') := fun d os => HK.out _ (below_regrown w d os)
  have HM : Hid (aI.length ≤ aic ∧ bI.length ≤ bic ∧ aI.length ≤ 140737488355328 ∧ bI.length ≤ 140737488355328) := ⟨ca, cb, la, lb⟩
  have HP : Hid ((w.cell? ⟨ga, oa + 3, none⟩ = some (.slice aio aI.length aic)) ∧ (w.cell? ⟨gb, ob + 3, none⟩ = some (.slice bio bI.length bic))) := ⟨p3, q3⟩
  clear hka hia hkb hib HK la lk ca ck lb lj cb cj p0 p1 p2 p3 p4 q0 q1 q2 q3 q4
  by_cases hk : ka = kb
  rotate_left
  · have HT : Hid (R = false) := HR.out.symm.trans (sq_no (fun e => hk (VT.mk.inj e).1))
    have g1 : (ka != kb) = true := by simpa using hk
    go_enter Tryz.func63, Tryz.ntmps63
    go_wp2_with fail
    refine wp_region_quiet_below (by kernel_rfl) (by kernel_rfl) ?_
    repeat (go_big_quiet_step (exact Calls.regrown_of (HKr.out _ _)))
    refine wpQuiet_nil ?_
    intro w2 hw'
    have HB2 : Hid (Below w.heap.size w w2) := by
      obtain ⟨⟨dq, osq⟩, rfl⟩ := hw'
      exact below_regrown w dq osq
    clear hw' P0 P1 P2 P3 P4 Q0 Q1 Q2 Q3 Q4
    go_wp2_with fail
    go_ret
    exact ⟨by rw [HT.out]; rfl, HB2.out⟩
  subst hk
  have g1 : (ka != ka) = false := by simp
  by_cases hn : an = bn
  rotate_left
  · have HT : Hid (R = false) := HR.out.symm.trans (sq_no (fun e => hn (VT.mk.inj e).2.1))
    have g2 : (an.toList == bn.toList) = false := by cases hc : (an.toList == bn.toList) with
      | true => exact absurd (beqQ_yes hc) hn
      | false => rfl
    have g2x : (an.toList != bn.toList) = true := by simp only [bne]; rw [g2]; rfl
    go_enter Tryz.func63, Tryz.ntmps63
    go_wp2_with fail
    refine wp_region_quiet_below (by kernel_rfl) (by kernel_rfl) ?_
    repeat (go_big_quiet_step (exact Calls.regrown_of (HKr.out _ _)))
    refine wpQuiet_nil ?_
    intro w2 hw'
    have HB2 : Hid (Below w.heap.size w w2) := by
      obtain ⟨⟨dq, osq⟩, rfl⟩ := hw'
      exact below_regrown w dq osq
    clear hw' P0 P1 P2 P3 P4 Q0 Q1 Q2 Q3 Q4
    go_wp2_with fail
    go_ret
    exact ⟨by rw [HT.out]; rfl, HB2.out⟩
  subst hn
  have g2 : (an.toList != an.toList) = false := by simp
  by_cases hx : ax = bx
  rotate_left
  · have HT : Hid (R = false) := HR.out.symm.trans (sq_no (fun e => hx (VT.mk.inj e).2.2.1))
    have g3 : (ax.toList == bx.toList) = false := by cases hc : (ax.toList == bx.toList) with
      | true => exact absurd (beqQ_yes hc) hx
      | false => rfl
    have g3x : (ax.toList != bx.toList) = true := by simp only [bne]; rw [g3]; rfl
    go_enter Tryz.func63, Tryz.ntmps63
    go_wp2_with fail
    refine wp_region_quiet_below (by kernel_rfl) (by kernel_rfl) ?_
    repeat (go_big_quiet_step (exact Calls.regrown_of (HKr.out _ _)))
    refine wpQuiet_nil ?_
    intro w2 hw'
    have HB2 : Hid (Below w.heap.size w w2) := by
      obtain ⟨⟨dq, osq⟩, rfl⟩ := hw'
      exact below_regrown w dq osq
    clear hw' P0 P1 P2 P3 P4 Q0 Q1 Q2 Q3 Q4
    go_wp2_with fail
    go_ret
    exact ⟨by rw [HT.out]; rfl, HB2.out⟩
  subst hx
  have g3 : (ax.toList != ax.toList) = false := by simp
  by_cases hy : aK = bK
  rotate_left
  · have HT : Hid (R = false) := HR.out.symm.trans (sq_no (fun e => hy (VT.mk.inj e).2.2.2.2))
    rw [sq_no hy] at HKr
    go_enter Tryz.func63, Tryz.ntmps63
    go_wp2_with fail
    refine wp_region_quiet_below (by kernel_rfl) (by kernel_rfl) ?_
    repeat (go_big_quiet_step (exact Calls.regrown_of (HKr.out _ _)))
    refine wpQuiet_nil ?_
    intro w2 hw'
    have HB2 : Hid (Below w.heap.size w w2) := by
      obtain ⟨⟨dq, osq⟩, rfl⟩ := hw'
      exact below_regrown w dq osq
    clear hw' P0 P1 P2 P3 P4 Q0 Q1 Q2 Q3 Q4
    go_wp2_with fail
    go_ret
    exact ⟨by rw [HT.out]; rfl, HB2.out⟩
  rw [sq_iff.2 hy] at HKr
  have HY := Hid.mk hy
  clear hy
  by_cases hl : aI.length = bI.length
  rotate_left
  · have HT : Hid (R = false) := HR.out.symm.trans (sq_no (fun e => hl (congrArg List.length (VT.mk.inj e).2.2.2.1)))
    have g4 : ((aI.length : Int) != (bI.length : Int)) = true := by simp; omega
    go_enter Tryz.func63, Tryz.ntmps63
    go_wp2_with fail
    refine wp_region_quiet_below (by kernel_rfl) (by kernel_rfl) ?_
    repeat (go_big_quiet_step (exact Calls.regrown_of (HKr.out _ _)))
    refine wpQuiet_nil ?_
    intro w2 hw'
    have HB2 : Hid (Below w.heap.size w w2) := by
      obtain ⟨⟨dq, osq⟩, rfl⟩ := hw'
      exact below_regrown w dq osq
    clear hw' P0 P1 P2 P3 P4 Q0 Q1 Q2 Q3 Q4
    go_wp2_with fail
    go_ret
    exact ⟨by rw [HT.out]; rfl, HB2.out⟩
  have HL := Hid.mk hl
  obtain ⟨N, hN⟩ : ∃ N, N = aI.length := ⟨_, rfl⟩
  have hN2 : N = bI.length := hN.trans hl
  rw [← hN] at HP HM
  rw [← hN2] at HP HM
  simp only [← hN, ← hN2] at P3 Q3
  have g4 : ((N : Int) != (N : Int)) = false := by simp
  have HN := Hid.mk (And.intro hN hN2)
  have hcap := HM.out.1
  have hcap2 := HM.out.2.1
  have hbig := HM.out.2.2.1
  clear hl hN hN2
  go_enter Tryz.func63, Tryz.ntmps63
  go_wp2_with fail
  refine wp_region_quiet_below (by kernel_rfl) (by kernel_rfl) ?_
  repeat (go_big_quiet_step (exact Calls.regrown_of (HKr.out _ _)))
  refine wpQuiet_nil ?_
  intro w2 hw'
  have HB2 : Hid (Below w.heap.size w w2) := by
    obtain ⟨⟨dq, osq⟩, rfl⟩ := hw'
    exact below_regrown w dq osq
  clear hw' P0 P1 P2 P3 P4 Q0 Q1 Q2 Q3 Q4
  have r3 := (HB2.out.cell (p := ⟨ga, oa + 3, none⟩) (block_lt_of_cell HP.out.1)).trans HP.out.1
  go_wp2_with fail
  clear r3
  go_loopw [67] (fun i wr => ∃ k : Nat, k ≤ N ∧ i = .int .i64 (k : Int) ∧ Hid (Below w.heap.size w wr) ∧ Hid (aI.take k = bI.take k)) (fun i _ => N - (intOf i).toNat)
  case atStart => exact ⟨0, Nat.zero_le _, rfl, HB2, rfl⟩
  case round =>
    obtain ⟨k, hk, rfl, HBw, HQ⟩ := hrel
    by_cases hlt : k < N
    · have hl1 : (k : Int) < (N : Int) := by omega
      have hl0 : (0 : Int) ≤ (k : Int) := by omega
      have hkx : k < aI.length := by rw [← HN.out.1]; exact hlt
      have hky : k < bI.length := by rw [← HN.out.2]; exact hlt
      obtain ⟨b, off, b2, off2, e1, e2, HCk⟩ := HI.out k hkx hky
      have t3 := (HBw.out.cell (p := ⟨ga, oa + 3, none⟩) (block_lt_of_cell HP.out.1)).trans HP.out.1
      have u3 := (HBw.out.cell (p := ⟨gb, ob + 3, none⟩) (block_lt_of_cell HP.out.2)).trans HP.out.2
      rw [e1] at t3
      rw [e2] at u3
      have T3 := fun d os => cell_regrown t3 d os
      have U3 := fun d os => cell_regrown u3 d os
      have HCr : Hid (∀ d os, Calls Tryz.prog 63 #[.pointer (some ⟨b, off + k * 5, none⟩), .pointer (some ⟨b2, off2 + k * 5, none⟩)] (grow (redrawn wr d) os) fun e w' => e = .returned (.bool (sq aI[k] bI[k])) ∧ Below (grow (redrawn wr d) os).heap.size (grow (redrawn wr d) os) w') := fun d os => HCk _ (HBw.out.trans ((below_regrown wr d os).mono HBw.out.size))
      have HUp := Hid.mk (fun e => takeQ_up hkx hky HQ.out e)
      have HNo := Hid.mk (fun e => takeQ_no hkx hky e)
      clear e1 e2 t3 u3 HCk
      by_cases he : aI[k] = bI[k]
      · have HQ2 := Hid.mk (HUp.out he)
        rw [sq_iff.2 he] at HCr
        clear HUp HNo he hkx hky
        go_wp2_with fail
        refine wp_region_quiet_below (by kernel_rfl) (by kernel_rfl) ?_
        repeat (go_big_quiet_step (exact Calls.regrown_of (HCr.out _ _)))
        refine wpQuiet_nil ?_
        intro w3 hw'
        have HB3 : Hid (Below w.heap.size w w3) := by
          obtain ⟨⟨dq, osq⟩, rfl⟩ := hw'
          exact HBw.out.trans ((below_regrown wr dq osq).mono HBw.out.size)
        clear hw' T3 U3
        go_wp2_with fail
        go_roundw
        case rel => exact ⟨k + 1, by omega, by go_num, HB3, HQ2⟩
        case measure => simp [intOf]; omega
      · have HT : Hid (R = false) := HR.out.symm.trans (sq_no (fun e => HNo.out he (VT.mk.inj e).2.2.2.1))
        rw [sq_no he] at HCr
        clear HUp HNo he hkx hky
        go_wp2_with fail
        refine wp_region_quiet_below (by kernel_rfl) (by kernel_rfl) ?_
        repeat (go_big_quiet_step (exact Calls.regrown_of (HCr.out _ _)))
        refine wpQuiet_nil ?_
        intro w3 hw'
        have HB3 : Hid (Below w.heap.size w w3) := by
          obtain ⟨⟨dq, osq⟩, rfl⟩ := hw'
          exact HBw.out.trans ((below_regrown wr dq osq).mono HBw.out.size)
        clear hw' T3 U3
        go_wp2_with fail
        go_ret
        exact ⟨by rw [HT.out]; rfl, HB3.out⟩
    · have hl1 : ¬ (k : Int) < (N : Int) := by omega
      have HT : Hid (R = true) := by
        have e := HQ.out
        rw [List.take_of_length_le (by rw [← HN.out.1]; omega), List.take_of_length_le (by rw [← HN.out.2]; omega)] at e
        refine HR.out.symm.trans (sq_iff.2 ?_)
        rw [e, HY.out]
      go_wp2_with fail
      go_ret
      exact ⟨by rw [HT.out]; rfl, HBw.out⟩
theorem w_alike : ∀ h, AlOk h
  | 0 => fun _ _ _ _ _ _ _ ⟨_, _, _, _, _, _, hA⟩ _ => hA.elim
  | h + 1 => al_step h (w_alike h)
end Go.Proofs.YtdmkfdaddacdhaaGreatDoor
