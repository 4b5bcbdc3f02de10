import Derived.Test.YtdjleoglphgdgaaGreatDoorM30
import Derived.Test.YtdjleoglphgdgaaGreatDoorM26
import Derived.BigQuiet
import Derived.Lib.QuietBelow
import Derived.Test.YtdjleoglphgdgaaGreatDoorM31
import Derived.WalkMore
namespace Go.Proofs.YtdjleoglphgdgaaGreatDoor
open Go.RowKit Go.Shelf Go.Sort
set_option linter.unusedVariables false
set_option linter.unusedSimpArgs false
attribute [local go_sem] Oper.semAt_some

theorem takeQ_up {α : Type} {xs ys : List α} {k : Nat} (h1 : k < xs.length) (h2 : k < ys.length) (h : xs.take k = ys.take k) (e : xs[k] = ys[k]) : xs.take (k + 1) = ys.take (k + 1) := by
  rw [List.take_succ_eq_append_getElem h1, List.take_succ_eq_append_getElem h2, h, e]
theorem takeQ_no {α : Type} {xs ys : List α} {k : Nat} (h1 : k < xs.length) (h2 : k < ys.length) (e : ¬ xs[k] = ys[k]) : ¬ xs = ys := by
  rintro rfl; exact e rfl
theorem beqQ_no {x y : ByteArray} (h : (x.toList == y.toList) = false) : ¬ x = y := by rintro rfl; simp at h
theorem beqQ_yes {x y : ByteArray} (h : (x.toList == y.toList) = true) : x = y := by
  rw [Lib.toList_data, Lib.toList_data] at h
  exact ByteArray.ext (Array.toList_inj.1 (by simpa using h))
theorem getD_keyQ {l : List ByteArray} {i : Nat} (h : i < l.length) : l.getD i .empty = l[i] := by rw [List.getD_eq_getElem?_getD, List.getElem?_eq_getElem h]; rfl

set_option maxRecDepth 100000 in
set_option maxHeartbeats 3200000 in
theorem w_EqualS (ao : Option Addr) (M acap : Nat) (xs : List ByteArray) (bo : Option Addr) (N bcap : Nat) (ys : List ByteArray) (w : World) (ha : KIn w ao xs) (hb : KIn w bo ys) (hM : xs.length = M) (hN : ys.length = N) (hac : M ≤ acap) (hbc : N ≤ bcap) (hM2 : M ≤ 140737488355328) (hN2 : N ≤ 140737488355328) :
    Calls Tryz.prog 209 #[.slice ao M acap, .slice bo N bcap] w fun e w' => e = .returned (.bool (sq xs ys)) ∧ Below w.heap.size w w' := by
  have HA := Hid.mk ha
  have HB := Hid.mk hb
  have HM := Hid.mk hM
  have HN := Hid.mk hN
  clear ha hb hM hN
  obtain ⟨R, HR⟩ : ∃ R, Hid (sq xs ys = R) := ⟨_, rfl⟩
  rw [HR.out]
  by_cases hMN : M = N
  · subst hMN
    have y1 : ((M : Int) != (M : Int)) = false := by simp
    go_enter Tryz.func209, Tryz.ntmps209
    go_wp2_with fail
    go_loopw [13] (fun i wr => ∃ k : Nat, k ≤ M ∧ i = .int .i64 (k : Int) ∧ Hid (Below w.heap.size w wr) ∧ Hid (xs.take k = ys.take k)) (fun i _ => M - (intOf i).toNat)
    case atStart => exact ⟨0, Nat.zero_le _, rfl, Below.refl _ _, rfl⟩
    case round =>
      obtain ⟨k, hk, rfl, HBw, HQ⟩ := hrel
      by_cases hlt : k < M
      · have hl1 : (k : Int) < (M : Int) := by omega
        have hl0 : (0 : Int) ≤ (k : Int) := by omega
        have hkx : k < xs.length := by rw [HM.out]; exact hlt
        have hky : k < ys.length := by rw [HN.out]; exact hlt
        obtain ⟨b, off, hao, hbl, hrow⟩ := (HA.out.keep HBw.out).row (by omega)
        obtain ⟨b2, off2, hbo, hbl2, hrow2⟩ := (HB.out.keep HBw.out).row (by omega)
        subst hao
        subst hbo
        have c0 := hrow k hkx
        have d0 := hrow2 k hky
        rw [getD_keyQ hkx] at c0
        rw [getD_keyQ hky] at d0
        have HUp := Hid.mk (fun e => takeQ_up hkx hky HQ.out e)
        have HNo := Hid.mk (fun e => takeQ_no hkx hky e)
        generalize xs[k] = x at *
        generalize ys[k] = y at *
        have R0 := fun d os => cell_regrown c0 d os
        have S0 := fun d os => cell_regrown d0 d os
        clear hrow hrow2 hbl hbl2 hkx hky c0 d0
        cases hc : (x.toList == y.toList) with
        | true =>
          have HQ2 := Hid.mk (HUp.out (beqQ_yes hc))
          have hc2 : (x.toList != y.toList) = false := by simp only [bne]; rw [hc]; rfl
          clear HUp HNo
          go_wp2_with fail
          refine wp_region_quiet_below (by kernel_rfl) (by kernel_rfl) ?_
          repeat (go_big_quiet_step (fail))
          refine wpQuiet_nil ?_
          intro w2 hw'
          have HB2 : Hid (Below w.heap.size w w2) := by
            obtain ⟨⟨dq, osq⟩, rfl⟩ := hw'
            exact HBw.out.trans ((below_regrown wr dq osq).mono HBw.out.size)
          clear hw' R0 S0
          go_wp2_with fail
          go_roundw
          case rel => exact ⟨k + 1, by omega, by go_num, HB2, HQ2⟩
          case measure => simp [intOf]; omega
        | false =>
          have HT : Hid (R = false) := HR.out.symm.trans (sq_no (HNo.out (beqQ_no hc)))
          have hc2 : (x.toList != y.toList) = true := by simp only [bne]; rw [hc]; rfl
          clear HUp HNo
          go_wp2_with fail
          refine wp_region_quiet_below (by kernel_rfl) (by kernel_rfl) ?_
          repeat (go_big_quiet_step (fail))
          refine wpQuiet_nil ?_
          intro w2 hw'
          have HB2 : Hid (Below w.heap.size w w2) := by
            obtain ⟨⟨dq, osq⟩, rfl⟩ := hw'
            exact HBw.out.trans ((below_regrown wr dq osq).mono HBw.out.size)
          clear hw' R0 S0
          go_wp2_with fail
          go_ret
          exact ⟨by rw [HT.out]; rfl, HB2.out⟩
      · have hl1 : ¬ (k : Int) < (M : Int) := by omega
        have HT : Hid (R = true) := by
          have e := HQ.out
          rw [List.take_of_length_le (by rw [HM.out]; omega), List.take_of_length_le (by rw [HN.out]; omega)] at e
          exact HR.out.symm.trans (sq_iff.2 e)
        go_wp2_with fail
        go_ret
        exact ⟨by rw [HT.out]; rfl, HBw.out⟩
  · have HT : Hid (R = false) := HR.out.symm.trans (sq_no (fun e => hMN (by rw [← HM.out, ← HN.out, e])))
    have y1 : ((M : Int) != (N : Int)) = true := by simp; omega
    have y2 : ¬ (M : Int) = (N : Int) := by omega
    go_enter Tryz.func209, Tryz.ntmps209
    go_wp2_with fail
    go_ret
    exact ⟨by rw [HT.out]; rfl, Below.refl _ _⟩
end Go.Proofs.YtdjleoglphgdgaaGreatDoor
namespace Go.Proofs.YtdjleoglphgdgaaGreatDoor
open Go.RowKit Go.Shelf Go.Sort
set_option linter.unusedVariables false
set_option linter.unusedSimpArgs false
attribute [local go_sem] Oper.semAt_some

/-- a value stands at a place -/
def VAt (w : World) (h : Nat) (A : VT) (g o : Nat) : Prop := ∃ v0 v1 v2 v3 v4 : Value, (w.cell? ⟨g, o, none⟩ = some v0 ∧ w.cell? ⟨g, o + 1, none⟩ = some v1 ∧ w.cell? ⟨g, o + 2, none⟩ = some v2 ∧ w.cell? ⟨g, o + 3, none⟩ = some v3 ∧ w.cell? ⟨g, o + 4, none⟩ = some v4) ∧ InH w h A (.agg #[v0, v1, v2, v3, v4])
theorem VAt.keep {w w' : World} {h : Nat} {A : VT} {g o : Nat} (hv : VAt w h A g o) (hb : Below w.heap.size w w') : VAt w' h A g o := by
  obtain ⟨v0, v1, v2, v3, v4, ⟨c0, c1, c2, c3, c4⟩, hi⟩ := hv
  have hl := block_lt_of_cell c0
  have cc : ∀ k u, w.cell? ⟨g, k, none⟩ = some u → w'.cell? ⟨g, k, none⟩ = some u := fun k u h3 => (hb.cell (p := ⟨g, k, none⟩) hl).trans h3
  exact ⟨v0, v1, v2, v3, v4, ⟨cc _ _ c0, cc _ _ c1, cc _ _ c2, cc _ _ c3, cc _ _ c4⟩, hi.keep hb⟩
def AlOk (h : Nat) : Prop := ∀ (A B : VT) (ga oa gb ob : Nat) (w : World), VAt w h A ga oa → VAt w h B gb ob → Calls Tryz.prog 177 #[.pointer (some ⟨ga, oa, none⟩), .pointer (some ⟨gb, ob, none⟩)] w fun e w' => e = .returned (.bool (sq A B)) ∧ Below w.heap.size w w'

set_option maxRecDepth 100000 in
set_option maxHeartbeats 6400000 in
theorem al_step (h : Nat) (ih : AlOk h) : AlOk (h + 1) := by
  rintro ⟨ka, an, ax, aI, aK⟩ ⟨kb, bn, bx, bI, bK⟩ ga oa gb ob w ⟨a0, a1, a2, a3, a4, ⟨p0, p1, p2, p3, p4⟩, hA⟩ ⟨b0, b1, b2, b3, b4, ⟨q0, q1, q2, q3, q4⟩, hB⟩
  obtain ⟨aio, aic, ako, akc, ea, _, _, la, lk, ca, ck, _, hka, hia⟩ := hA
  obtain ⟨bio, bic, bko, bkc, eb, _, _, lb, lj, cb, cj, _, hkb, hib⟩ := hB
  simp only [Value.agg.injEq, Array.mk.injEq, List.cons.injEq, and_true] at ea eb
  obtain ⟨rfl, rfl, rfl, rfl, rfl⟩ := ea
  obtain ⟨rfl, rfl, rfl, rfl, rfl⟩ := eb
  simp only [VT.kind, VT.num, VT.text, VT.items, VT.keys] at *
  obtain ⟨R, HR⟩ : ∃ R, Hid (sq (VT.mk ka an ax aI aK) (VT.mk kb bn bx bI bK) = R) := ⟨_, rfl⟩
  rw [HR.out]
  have HK : Hid (∀ u, Below w.heap.size w u → Calls Tryz.prog 209 #[.slice ako aK.length akc, .slice bko bK.length bkc] u fun e w' => e = .returned (.bool (sq aK bK)) ∧ Below u.heap.size u w') := fun u hu => w_EqualS ako _ akc aK bko _ bkc bK u (hka.keep hu) (hkb.keep hu) rfl rfl ck cj lk lj
  have HI : Hid (∀ (k : Nat) (h1 : k < aI.length) (h2 : k < bI.length), ∃ b off b2 off2, aio = some ⟨b, off, none⟩ ∧ bio = some ⟨b2, off2, none⟩ ∧ ∀ u, Below w.heap.size w u → Calls Tryz.prog 177 #[.pointer (some ⟨b, off + k * 5, none⟩), .pointer (some ⟨b2, off2 + k * 5, none⟩)] u fun e w' => e = .returned (.bool (sq aI[k] bI[k])) ∧ Below u.heap.size u w') := fun k h1 h2 => by
    obtain ⟨b, off, e1, hl1, hr1⟩ := hia (by omega)
    obtain ⟨b2, off2, e2, hl2, hr2⟩ := hib (by omega)
    exact ⟨b, off, b2, off2, e1, e2, fun u hu => ih aI[k] bI[k] b (off + k * 5) b2 (off2 + k * 5) u (VAt.keep (hr1 k h1) hu) (VAt.keep (hr2 k h2) hu)⟩
  have P0 := fun d os => cell_regrown p0 d os
  have P1 := fun d os => cell_regrown p1 d os
  have P2 := fun d os => cell_regrown p2 d os
  have P3 := fun d os => cell_regrown p3 d os
  have P4 := fun d os => cell_regrown p4 d os
  have Q0 := fun d os => cell_regrown q0 d os
  have Q1 := fun d os => cell_regrown q1 d os
  have Q2 := fun d os => cell_regrown q2 d os
  have Q3 := fun d os => cell_regrown q3 d os
  have Q4 := fun d os => cell_regrown q4 d os
  have HKr : Hid (∀ d os, Calls Tryz.prog 209 #[.slice ako aK.length akc, .slice bko bK.length bkc] (grow (redrawn w d) os) fun e w' => e = .returned (.bool (sq aK bK)) ∧ Below (grow (redrawn w d) os).heap.size (grow (redrawn w d) os) w') := fun d os => HK.out _ (below_regrown w d os)
  have HM : Hid (aI.length ≤ aic ∧ bI.length ≤ bic ∧ aI.length ≤ 140737488355328 ∧ bI.length ≤ 140737488355328) := ⟨ca, cb, la, lb⟩
  have HP : Hid ((w.cell? ⟨ga, oa + 3, none⟩ = some (.slice aio aI.length aic)) ∧ (w.cell? ⟨gb, ob + 3, none⟩ = some (.slice bio bI.length bic))) := ⟨p3, q3⟩
  clear hka hia hkb hib HK la lk ca ck lb lj cb cj p0 p1 p2 p3 p4 q0 q1 q2 q3 q4
  by_cases hk : ka = kb
  rotate_left
  · have HT : Hid (R = false) := HR.out.symm.trans (sq_no (fun e => hk (VT.mk.inj e).1))
    have g1 : (ka != kb) = true := by simpa using hk
    go_enter Tryz.func177, Tryz.ntmps177
    go_wp2_with fail
    refine wp_region_quiet_below (by kernel_rfl) (by kernel_rfl) ?_
    repeat (go_big_quiet_step (exact Calls.regrown_of (HKr.out _ _)))
    refine wpQuiet_nil ?_
    intro w2 hw'
    have HB2 : Hid (Below w.heap.size w w2) := by
      obtain ⟨⟨dq, osq⟩, rfl⟩ := hw'
      exact below_regrown w dq osq
    clear hw' P0 P1 P2 P3 P4 Q0 Q1 Q2 Q3 Q4
    go_wp2_with fail
    go_ret
    exact ⟨by rw [HT.out]; rfl, HB2.out⟩
  subst hk
  have g1 : (ka != ka) = false := by simp
  by_cases hn : an = bn
  rotate_left
  · have HT : Hid (R = false) := HR.out.symm.trans (sq_no (fun e => hn (VT.mk.inj e).2.1))
    have g2 : (an.toList == bn.toList) = false := by cases hc : (an.toList == bn.toList) with
      | true => exact absurd (beqQ_yes hc) hn
      | false => rfl
    have g2x : (an.toList != bn.toList) = true := by simp only [bne]; rw [g2]; rfl
    go_enter Tryz.func177, Tryz.ntmps177
    go_wp2_with fail
    refine wp_region_quiet_below (by kernel_rfl) (by kernel_rfl) ?_
    repeat (go_big_quiet_step (exact Calls.regrown_of (HKr.out _ _)))
    refine wpQuiet_nil ?_
    intro w2 hw'
    have HB2 : Hid (Below w.heap.size w w2) := by
      obtain ⟨⟨dq, osq⟩, rfl⟩ := hw'
      exact below_regrown w dq osq
    clear hw' P0 P1 P2 P3 P4 Q0 Q1 Q2 Q3 Q4
    go_wp2_with fail
    go_ret
    exact ⟨by rw [HT.out]; rfl, HB2.out⟩
  subst hn
  have g2 : (an.toList != an.toList) = false := by simp
  by_cases hx : ax = bx
  rotate_left
  · have HT : Hid (R = false) := HR.out.symm.trans (sq_no (fun e => hx (VT.mk.inj e).2.2.1))
    have g3 : (ax.toList == bx.toList) = false := by cases hc : (ax.toList == bx.toList) with
      | true => exact absurd (beqQ_yes hc) hx
      | false => rfl
    have g3x : (ax.toList != bx.toList) = true := by simp only [bne]; rw [g3]; rfl
    go_enter Tryz.func177, Tryz.ntmps177
    go_wp2_with fail
    refine wp_region_quiet_below (by kernel_rfl) (by kernel_rfl) ?_
    repeat (go_big_quiet_step (exact Calls.regrown_of (HKr.out _ _)))
    refine wpQuiet_nil ?_
    intro w2 hw'
    have HB2 : Hid (Below w.heap.size w w2) := by
      obtain ⟨⟨dq, osq⟩, rfl⟩ := hw'
      exact below_regrown w dq osq
    clear hw' P0 P1 P2 P3 P4 Q0 Q1 Q2 Q3 Q4
    go_wp2_with fail
    go_ret
    exact ⟨by rw [HT.out]; rfl, HB2.out⟩
  subst hx
  have g3 : (ax.toList != ax.toList) = false := by simp
  by_cases hy : aK = bK
  rotate_left
  · have HT : Hid (R = false) := HR.out.symm.trans (sq_no (fun e => hy (VT.mk.inj e).2.2.2.2))
    rw [sq_no hy] at HKr
    go_enter Tryz.func177, Tryz.ntmps177
    go_wp2_with fail
    refine wp_region_quiet_below (by kernel_rfl) (by kernel_rfl) ?_
    repeat (go_big_quiet_step (exact Calls.regrown_of (HKr.out _ _)))
    refine wpQuiet_nil ?_
    intro w2 hw'
    have HB2 : Hid (Below w.heap.size w w2) := by
      obtain ⟨⟨dq, osq⟩, rfl⟩ := hw'
      exact below_regrown w dq osq
    clear hw' P0 P1 P2 P3 P4 Q0 Q1 Q2 Q3 Q4
    go_wp2_with fail
    go_ret
    exact ⟨by rw [HT.out]; rfl, HB2.out⟩
  rw [sq_iff.2 hy] at HKr
  have HY := Hid.mk hy
  clear hy
  by_cases hl : aI.length = bI.length
  rotate_left
  · have HT : Hid (R = false) := HR.out.symm.trans (sq_no (fun e => hl (congrArg List.length (VT.mk.inj e).2.2.2.1)))
    have g4 : ((aI.length : Int) != (bI.length : Int)) = true := by simp; omega
    go_enter Tryz.func177, Tryz.ntmps177
    go_wp2_with fail
    refine wp_region_quiet_below (by kernel_rfl) (by kernel_rfl) ?_
    repeat (go_big_quiet_step (exact Calls.regrown_of (HKr.out _ _)))
    refine wpQuiet_nil ?_
    intro w2 hw'
    have HB2 : Hid (Below w.heap.size w w2) := by
      obtain ⟨⟨dq, osq⟩, rfl⟩ := hw'
      exact below_regrown w dq osq
    clear hw' P0 P1 P2 P3 P4 Q0 Q1 Q2 Q3 Q4
    go_wp2_with fail
    go_ret
    exact ⟨by rw [HT.out]; rfl, HB2.out⟩
  have HL := Hid.mk hl
  obtain ⟨N, hN⟩ : ∃ N, N = aI.length := ⟨_, rfl⟩
  have hN2 : N = bI.length := hN.trans hl
  rw [← hN] at HP HM
  rw [← hN2] at HP HM
  simp only [← hN, ← hN2] at P3 Q3
  have g4 : ((N : Int) != (N : Int)) = false := by simp
  have HN := Hid.mk (And.intro hN hN2)
  have hcap := HM.out.1
  have hcap2 := HM.out.2.1
  have hbig := HM.out.2.2.1
  clear hl hN hN2
  go_enter Tryz.func177, Tryz.ntmps177
  go_wp2_with fail
  refine wp_region_quiet_below (by kernel_rfl) (by kernel_rfl) ?_
  repeat (go_big_quiet_step (exact Calls.regrown_of (HKr.out _ _)))
  refine wpQuiet_nil ?_
  intro w2 hw'
  have HB2 : Hid (Below w.heap.size w w2) := by
    obtain ⟨⟨dq, osq⟩, rfl⟩ := hw'
    exact below_regrown w dq osq
  clear hw' P0 P1 P2 P3 P4 Q0 Q1 Q2 Q3 Q4
  have r3 := (HB2.out.cell (p := ⟨ga, oa + 3, none⟩) (block_lt_of_cell HP.out.1)).trans HP.out.1
  go_wp2_with fail
  clear r3
  go_loopw [67] (fun i wr => ∃ k : Nat, k ≤ N ∧ i = .int .i64 (k : Int) ∧ Hid (Below w.heap.size w wr) ∧ Hid (aI.take k = bI.take k)) (fun i _ => N - (intOf i).toNat)
  case atStart => exact ⟨0, Nat.zero_le _, rfl, HB2, rfl⟩
  case round =>
    obtain ⟨k, hk, rfl, HBw, HQ⟩ := hrel
    by_cases hlt : k < N
    · have hl1 : (k : Int) < (N : Int) := by omega
      have hl0 : (0 : Int) ≤ (k : Int) := by omega
      have hkx : k < aI.length := by rw [← HN.out.1]; exact hlt
      have hky : k < bI.length := by rw [← HN.out.2]; exact hlt
      obtain ⟨b, off, b2, off2, e1, e2, HCk⟩ := HI.out k hkx hky
      have t3 := (HBw.out.cell (p := ⟨ga, oa + 3, none⟩) (block_lt_of_cell HP.out.1)).trans HP.out.1
      have u3 := (HBw.out.cell (p := ⟨gb, ob + 3, none⟩) (block_lt_of_cell HP.out.2)).trans HP.out.2
      rw [e1] at t3
      rw [e2] at u3
      have T3 := fun d os => cell_regrown t3 d os
      have U3 := fun d os => cell_regrown u3 d os
      have HCr : Hid (∀ d os, Calls Tryz.prog 177 #[.pointer (some ⟨b, off + k * 5, none⟩), .pointer (some ⟨b2, off2 + k * 5, none⟩)] (grow (redrawn wr d) os) fun e w' => e = .returned (.bool (sq aI[k] bI[k])) ∧ Below (grow (redrawn wr d) os).heap.size (grow (redrawn wr d) os) w') := fun d os => HCk _ (HBw.out.trans ((below_regrown wr d os).mono HBw.out.size))
      have HUp := Hid.mk (fun e => takeQ_up hkx hky HQ.out e)
      have HNo := Hid.mk (fun e => takeQ_no hkx hky e)
      clear e1 e2 t3 u3 HCk
      by_cases he : aI[k] = bI[k]
      · have HQ2 := Hid.mk (HUp.out he)
        rw [sq_iff.2 he] at HCr
        clear HUp HNo he hkx hky
        go_wp2_with fail
        refine wp_region_quiet_below (by kernel_rfl) (by kernel_rfl) ?_
        repeat (go_big_quiet_step (exact Calls.regrown_of (HCr.out _ _)))
        refine wpQuiet_nil ?_
        intro w3 hw'
        have HB3 : Hid (Below w.heap.size w w3) := by
          obtain ⟨⟨dq, osq⟩, rfl⟩ := hw'
          exact HBw.out.trans ((below_regrown wr dq osq).mono HBw.out.size)
        clear hw' T3 U3
        go_wp2_with fail
        go_roundw
        case rel => exact ⟨k + 1, by omega, by go_num, HB3, HQ2⟩
        case measure => simp [intOf]; omega
      · have HT : Hid (R = false) := HR.out.symm.trans (sq_no (fun e => HNo.out he (VT.mk.inj e).2.2.2.1))
        rw [sq_no he] at HCr
        clear HUp HNo he hkx hky
        go_wp2_with fail
        refine wp_region_quiet_below (by kernel_rfl) (by kernel_rfl) ?_
        repeat (go_big_quiet_step (exact Calls.regrown_of (HCr.out _ _)))
        refine wpQuiet_nil ?_
        intro w3 hw'
        have HB3 : Hid (Below w.heap.size w w3) := by
          obtain ⟨⟨dq, osq⟩, rfl⟩ := hw'
          exact HBw.out.trans ((below_regrown wr dq osq).mono HBw.out.size)
        clear hw' T3 U3
        go_wp2_with fail
        go_ret
        exact ⟨by rw [HT.out]; rfl, HB3.out⟩
    · have hl1 : ¬ (k : Int) < (N : Int) := by omega
      have HT : Hid (R = true) := by
        have e := HQ.out
        rw [List.take_of_length_le (by rw [← HN.out.1]; omega), List.take_of_length_le (by rw [← HN.out.2]; omega)] at e
        refine HR.out.symm.trans (sq_iff.2 ?_)
        rw [e, HY.out]
      go_wp2_with fail
      go_ret
      exact ⟨by rw [HT.out]; rfl, HBw.out⟩
theorem w_alike : ∀ h, AlOk h
  | 0 => fun _ _ _ _ _ _ _ ⟨_, _, _, _, _, _, hA⟩ _ => hA.elim
  | h + 1 => al_step h (w_alike h)
end Go.Proofs.YtdjleoglphgdgaaGreatDoor
namespace Go.Proofs.YtdjleoglphgdgaaGreatDoor
open Go.RowKit Go.Shelf Go.Sort
set_option linter.unusedVariables false
set_option linter.unusedSimpArgs false
attribute [local go_sem] Oper.semAt_some

abbrev InA (w : World) (h : Nat) (A : NT) (v : Value) : Prop := InN (fun _ => True) w h A v
theorem InN.low {w w' : World} {h : Nat} {A : NT} {v : Value} (hv : InA w h A v) (hb : Below w.heap.size w w') : InA w' h A v := hv.keep hb.size (fun b _ hl => hb.block b hl) (fun _ _ _ => trivial)
/-- a part stands at a place -/
def NAt (w : World) (h : Nat) (A : NT) (g o : Nat) : Prop := ∃ c : Fin 10 → Value, (∀ j : Fin 10, w.cell? ⟨g, o + j.1, none⟩ = some (c j)) ∧ InA w h A (ndV c)
theorem NAt.keep {w w' : World} {h : Nat} {A : NT} {g o : Nat} (hv : NAt w h A g o) (hb : Below w.heap.size w w') : NAt w' h A g o := by
  obtain ⟨c, hc, hi⟩ := hv
  have hl := block_lt_of_cell (hc 0)
  exact ⟨c, fun j => (hb.cell (p := ⟨g, o + j.1, none⟩) hl).trans (hc j), hi.low hb⟩
/-- a part's parts: its cells, its value, its names, its kids -/
structure NPt (w : World) (h : Nat) (A : NT) (g o : Nat) (io : Option Addr) (ic : Nat) (yo : Option Addr) (yc : Nat) (no : Option Addr) (nc : Nat) (ko : Option Addr) (kc : Nat) : Prop where
  c0 : w.cell? ⟨g, o, none⟩ = some (.int .i64 A.op)
  c1 : w.cell? ⟨g, o + 1, none⟩ = some (.int .i64 A.at_)
  c2 : w.cell? ⟨g, o + 2, none⟩ = some (.string A.text)
  c3 : w.cell? ⟨g, o + 3, none⟩ = some (.int .i64 A.value.kind)
  c4 : w.cell? ⟨g, o + 4, none⟩ = some (.string A.value.num)
  c5 : w.cell? ⟨g, o + 5, none⟩ = some (.string A.value.text)
  c6 : w.cell? ⟨g, o + 6, none⟩ = some (.slice io A.value.items.length ic)
  c7 : w.cell? ⟨g, o + 7, none⟩ = some (.slice yo A.value.keys.length yc)
  c8 : w.cell? ⟨g, o + 8, none⟩ = some (.slice no A.names.length nc)
  c9 : w.cell? ⟨g, o + 9, none⟩ = some (.slice ko A.kids.length kc)
  tx : A.text.size ≤ 140737488355328
  val : VAt w (h + 1) A.value g (o + 3)
  nl : A.names.length ≤ nc ∧ A.names.length ≤ 140737488355328 ∧ ∀ k ∈ A.names, k.size ≤ 140737488355328
  names : KIn w no A.names
  kl : A.kids.length ≤ kc ∧ A.kids.length ≤ 140737488355328
  kids : 0 < A.kids.length → ∃ b off, ko = some ⟨b, off, none⟩ ∧ ∀ i, (hi : i < A.kids.length) → NAt w h A.kids[i] b (off + i * 10)
theorem NAt.open_ {w : World} {h : Nat} {A : NT} {g o : Nat} (hv : NAt w (h + 1) A g o) : ∃ io ic yo yc no nc ko kc, NPt w h A g o io ic yo yc no nc ko kc := by
  obtain ⟨c, hc, io, ic, yo, yc, no, nc, ko, kc, e, a1, a2, a3, a4, hn, hk⟩ := hv
  unfold ndV at e
  simp only [Value.agg.injEq, Array.mk.injEq, List.cons.injEq, and_true] at e
  obtain ⟨e0, e1, e2, e3, e4, e5, e6, e7, e8, e9⟩ := e
  have d : ∀ j v, c j = v → w.cell? ⟨g, o + j.1, none⟩ = some v := fun j v h => h ▸ hc j
  refine ⟨io, ic, yo, yc, no, nc, ko, kc, d 0 _ e0, d 1 _ e1, d 2 _ e2, d 3 _ e3, d 4 _ e4, d 5 _ e5, d 6 _ e6, d 7 _ e7, d 8 _ e8, d 9 _ e9, a1, ⟨_, _, _, _, _, ⟨d 3 _ e3, d 4 _ e4, d 5 _ e5, d 6 _ e6, d 7 _ e7⟩, a2.toH⟩, a3, ⟨fun h0 => ?_⟩, a4, fun h0 => ?_⟩
  · obtain ⟨b, off, e, _, hl, hc⟩ := hn h0
    exact ⟨b, off, e, hl, hc⟩
  · obtain ⟨b, off, e, _, hl, hc⟩ := hk h0
    exact ⟨b, off, e, fun i hi => hc i hi⟩
end Go.Proofs.YtdjleoglphgdgaaGreatDoor
namespace Go.Proofs.YtdjleoglphgdgaaGreatDoor
open Go.RowKit Go.Shelf Go.Sort
set_option linter.unusedVariables false
set_option linter.unusedSimpArgs false
attribute [local go_sem] Oper.semAt_some

/-- two boxes -/
structure Bb (w : World) (ca cb : Array Value) (t : TypeId) (W : World) : Prop where
  below : Below w.heap.size w W
  lt : w.heap.size + 1 < W.heap.size
  a : W.heap[w.heap.size]? = some (.cells ca t (0, 0))
  b : W.heap[w.heap.size + 1]? = some (.cells cb t (0, 0))
theorem Bb.new {w W : World} {ca cb : Array Value} {t : TypeId} (h : (w.alloc (.cells ca t)).alloc (.cells cb t) = W) : Bb w ca cb t W := by
  subst h
  refine ⟨(below1 w _).alloc (by simp) _, by simp, (Below.heap_alloc _ _ _ (by simp)).trans (heap_alloc_new w _), ?_⟩
  have := heap_alloc_new (w.alloc (.cells ca t)) (.cells cb t)
  rwa [World.size_alloc] at this
theorem Bb.keep {w W W' : World} {ca cb : Array Value} {t : TypeId} (h : Bb w ca cb t W) (hb : Below W.heap.size W W') : Bb w ca cb t W' :=
  ⟨h.below.trans (hb.mono h.below.size), Nat.lt_of_lt_of_le h.lt hb.size, (hb.block _ (Nat.lt_trans (Nat.lt_succ_self _) h.lt)).trans h.a, (hb.block _ h.lt).trans h.b⟩
theorem Bb.ca {w W : World} {ca cb : Array Value} {t : TypeId} (h : Bb w ca cb t W) {j : Nat} {v : Value} (e : ca[j]? = some v) : W.cell? ⟨w.heap.size, j, none⟩ = some v := by rw [cell_of_row _ _ _ _ _ _ h.a]; exact e
theorem Bb.cb {w W : World} {ca cb : Array Value} {t : TypeId} (h : Bb w ca cb t W) {j : Nat} {v : Value} (e : cb[j]? = some v) : W.cell? ⟨w.heap.size + 1, j, none⟩ = some v := by rw [cell_of_row _ _ _ _ _ _ h.b]; exact e

def RaOk (h : Nat) : Prop := ∀ (A B : VT) (va vb : Value) (w : World), InH w h A va → InH w h B vb → Calls Tryz.prog 23 #[va, vb] w fun e w' => e = .returned (.bool (sq A B)) ∧ Below w.heap.size w w'

set_option maxRecDepth 100000 in
set_option maxHeartbeats 6400000 in
theorem ral_step (h : Nat) (ih : RaOk h) : RaOk (h + 1) := by
  rintro ⟨ka, an, ax, aI, aK⟩ ⟨kb, bn, bx, bI, bK⟩ va vb w ⟨aio, aic, ako, akc, rfl, _, _, la, lk, ca, ck, _, hka, hia⟩ ⟨bio, bic, bko, bkc, rfl, _, _, lb, lj, cb, cj, _, hkb, hib⟩
  simp only [VT.kind, VT.num, VT.text, VT.items, VT.keys] at *
  obtain ⟨R, HR⟩ : ∃ R, Hid (sq (VT.mk ka an ax aI aK) (VT.mk kb bn bx bI bK) = R) := ⟨_, rfl⟩
  rw [HR.out]
  have HKa := Hid.mk hka
  have HKb := Hid.mk hkb
  have HI : Hid (∀ (k : Nat) (h1 : k < aI.length) (h2 : k < bI.length), ∃ b off b2 off2 e0 e1 e2 e3 e4 f0 f1 f2 f3 f4, aio = some ⟨b, off, none⟩ ∧ bio = some ⟨b2, off2, none⟩ ∧ ∀ u, Below w.heap.size w u → u.cell? ⟨b, off + k * 5, none⟩ = some e0 ∧ u.cell? ⟨b, off + k * 5 + 1, none⟩ = some e1 ∧ u.cell? ⟨b, off + k * 5 + 2, none⟩ = some e2 ∧ u.cell? ⟨b, off + k * 5 + 3, none⟩ = some e3 ∧ u.cell? ⟨b, off + k * 5 + 4, none⟩ = some e4 ∧ u.cell? ⟨b2, off2 + k * 5, none⟩ = some f0 ∧ u.cell? ⟨b2, off2 + k * 5 + 1, none⟩ = some f1 ∧ u.cell? ⟨b2, off2 + k * 5 + 2, none⟩ = some f2 ∧ u.cell? ⟨b2, off2 + k * 5 + 3, none⟩ = some f3 ∧ u.cell? ⟨b2, off2 + k * 5 + 4, none⟩ = some f4 ∧ ∀ u', Below u.heap.size u u' → Calls Tryz.prog 23 #[.agg #[e0, e1, e2, e3, e4], .agg #[f0, f1, f2, f3, f4]] u' fun e w' => e = .returned (.bool (sq aI[k] bI[k])) ∧ Below u'.heap.size u' w') := fun k h1 h2 => by
    obtain ⟨b, off, e1, hl1, hr1⟩ := hia (by omega)
    obtain ⟨b2, off2, e2, hl2, hr2⟩ := hib (by omega)
    obtain ⟨e0, e1', e2', e3, e4, ⟨p0, p1, p2, p3, p4⟩, i1⟩ := hr1 k h1
    obtain ⟨f0, f1, f2, f3, f4, ⟨q0, q1, q2, q3, q4⟩, i2⟩ := hr2 k h2
    refine ⟨b, off, b2, off2, e0, e1', e2', e3, e4, f0, f1, f2, f3, f4, e1, e2, fun u hu => ?_⟩
    have cc : ∀ g o v, g < w.heap.size → w.cell? ⟨g, o, none⟩ = some v → u.cell? ⟨g, o, none⟩ = some v := fun g o v hg h => (hu.cell (p := ⟨g, o, none⟩) hg).trans h
    exact ⟨cc _ _ _ hl1 p0, cc _ _ _ hl1 p1, cc _ _ _ hl1 p2, cc _ _ _ hl1 p3, cc _ _ _ hl1 p4, cc _ _ _ hl2 q0, cc _ _ _ hl2 q1, cc _ _ _ hl2 q2, cc _ _ _ hl2 q3, cc _ _ _ hl2 q4, fun u' hu' => ih _ _ _ _ u' ((i1.keep hu).keep hu') ((i2.keep hu).keep hu')⟩
  have HM : Hid (aI.length ≤ aic ∧ bI.length ≤ bic ∧ aI.length ≤ 140737488355328 ∧ bI.length ≤ 140737488355328) := ⟨ca, cb, la, lb⟩
  have HM2 : Hid (aK.length ≤ akc ∧ bK.length ≤ bkc ∧ aK.length ≤ 140737488355328 ∧ bK.length ≤ 140737488355328) := ⟨ck, cj, lk, lj⟩
  clear hka hia hkb hib la lk ca ck lb lj cb cj
  obtain ⟨W1, hW1⟩ : ∃ W1, (w.alloc (.cells #[.int .i64 ka, .string an, .string ax, .slice aio aI.length aic, .slice ako aK.length akc] 25)).alloc (.cells #[.int .i64 kb, .string bn, .string bx, .slice bio bI.length bic, .slice bko bK.length bkc] 25) = W1 := ⟨_, rfl⟩
  have HX := Hid.mk (Bb.new hW1)
  have x0 := HX.out.ca (j := 0) rfl
  have y0 := HX.out.cb (j := 0) rfl
  have x1 := HX.out.ca (j := 1) rfl
  have y1 := HX.out.cb (j := 1) rfl
  have x2 := HX.out.ca (j := 2) rfl
  have y2 := HX.out.cb (j := 2) rfl
  have x3 := HX.out.ca (j := 3) rfl
  have y3 := HX.out.cb (j := 3) rfl
  have x4 := HX.out.ca (j := 4) rfl
  have y4 := HX.out.cb (j := 4) rfl
  by_cases hk : ka = kb
  rotate_left
  · have HT : Hid (R = false) := HR.out.symm.trans (sq_no (fun e => hk (VT.mk.inj e).1))
    have g1 : (ka != kb) = true := by simpa using hk
    go_enter Tryz.func23, Tryz.ntmps23
    go_wp2_with fail
    go_ret
    exact ⟨by rw [HT.out]; rfl, HX.out.below⟩
  subst hk
  have g1 : (ka != ka) = false := by simp
  by_cases hn : an = bn
  rotate_left
  · have HT : Hid (R = false) := HR.out.symm.trans (sq_no (fun e => hn (VT.mk.inj e).2.1))
    have g2 : (an.toList == bn.toList) = false := by cases hc : (an.toList == bn.toList) with
      | true => exact absurd (beqQ_yes hc) hn
      | false => rfl
    have g2x : (an.toList != bn.toList) = true := by simp only [bne]; rw [g2]; rfl
    go_enter Tryz.func23, Tryz.ntmps23
    go_wp2_with fail
    go_ret
    exact ⟨by rw [HT.out]; rfl, HX.out.below⟩
  subst hn
  have g2 : (an.toList != an.toList) = false := by simp
  by_cases hx : ax = bx
  rotate_left
  · have HT : Hid (R = false) := HR.out.symm.trans (sq_no (fun e => hx (VT.mk.inj e).2.2.1))
    have g3 : (ax.toList == bx.toList) = false := by cases hc : (ax.toList == bx.toList) with
      | true => exact absurd (beqQ_yes hc) hx
      | false => rfl
    have g3x : (ax.toList != bx.toList) = true := by simp only [bne]; rw [g3]; rfl
    go_enter Tryz.func23, Tryz.ntmps23
    go_wp2_with fail
    go_ret
    exact ⟨by rw [HT.out]; rfl, HX.out.below⟩
  subst hx
  have g3 : (ax.toList != ax.toList) = false := by simp
  by_cases hl : aI.length = bI.length
  rotate_left
  · have HT : Hid (R = false) := HR.out.symm.trans (sq_no (fun e => hl (congrArg List.length (VT.mk.inj e).2.2.2.1)))
    have g4 : ((aI.length : Int) != (bI.length : Int)) = true := by simp; omega
    go_enter Tryz.func23, Tryz.ntmps23
    go_wp2_with fail
    go_ret
    exact ⟨by rw [HT.out]; rfl, HX.out.below⟩
  have g4 : ((aI.length : Int) != (bI.length : Int)) = false := by simp; omega
  have HL := Hid.mk hl
  clear hl
  by_cases hl : aK.length = bK.length
  rotate_left
  · have HT : Hid (R = false) := HR.out.symm.trans (sq_no (fun e => hl (congrArg List.length (VT.mk.inj e).2.2.2.2)))
    have g5 : ((aK.length : Int) != (bK.length : Int)) = true := by simp; omega
    go_enter Tryz.func23, Tryz.ntmps23
    go_wp2_with fail
    go_ret
    exact ⟨by rw [HT.out]; rfl, HX.out.below⟩
  have g5 : ((aK.length : Int) != (bK.length : Int)) = false := by simp; omega
  have HLK := Hid.mk hl
  clear hl
  obtain ⟨N, hN⟩ : ∃ N, N = aI.length := ⟨_, rfl⟩
  obtain ⟨NK, hNK⟩ : ∃ N, N = aK.length := ⟨_, rfl⟩
  have HN : Hid (N = aI.length ∧ N = bI.length) := ⟨hN, hN.trans HL.out⟩
  have HNK : Hid (NK = aK.length ∧ NK = bK.length) := ⟨hNK, hNK.trans HLK.out⟩
  rw [← HN.out.1, ← HN.out.2] at HM g4
  rw [← HNK.out.1, ← HNK.out.2] at HM2 g5
  simp only [← HN.out.1, ← HNK.out.1] at HX x3 x4 hW1
  simp only [← HN.out.2, ← HNK.out.2] at HX y3 y4 hW1
  simp only [← HN.out.1, ← HNK.out.1, ← HN.out.2, ← HNK.out.2]
  have hcap := HM.out.1
  have hcap2 := HM.out.2.1
  have hbig := HM.out.2.2.1
  have hcap3 := HM2.out.1
  have hcap4 := HM2.out.2.1
  have hbig2 := HM2.out.2.2.1
  clear hN hNK
  go_enter Tryz.func23, Tryz.ntmps23
  go_wp2_with fail
  have HX2 := HX
  clear hW1 x0 y0 x1 y1 x2 y2 x3 y3 x4 y4
  go_loopw [5] (fun i wr => ∃ k : Nat, k ≤ NK ∧ i = .int .i64 (k : Int) ∧ Hid (Bb w #[.int .i64 ka, .string an, .string ax, .slice aio N aic, .slice ako NK akc] #[.int .i64 ka, .string an, .string ax, .slice bio N bic, .slice bko NK bkc] 25 wr) ∧ Hid (aK.take k = bK.take k)) (fun i _ => NK - (intOf i).toNat)
  case atStart => exact ⟨0, Nat.zero_le _, rfl, HX2, rfl⟩
  case round =>
    obtain ⟨k, hk, rfl, HBw, HQ⟩ := hrel
    have t3 := HBw.out.ca (j := 4) rfl
    have u3 := HBw.out.cb (j := 4) rfl
    by_cases hlt : k < NK
    · have hl1 : (k : Int) < (NK : Int) := by omega
      have hl0 : (0 : Int) ≤ (k : Int) := by omega
      have hkx : k < aK.length := by rw [← HNK.out.1]; exact hlt
      have hky : k < bK.length := by rw [← HNK.out.2]; exact hlt
      obtain ⟨b, off, hao, hbl, hrow⟩ := (HKa.out.keep HBw.out.below).row (by omega)
      obtain ⟨b2, off2, hbo, hbl2, hrow2⟩ := (HKb.out.keep HBw.out.below).row (by omega)
      have c0 := hrow k hkx
      have d0 := hrow2 k hky
      rw [getD_keyQ hkx] at c0
      rw [getD_keyQ hky] at d0
      rw [hao] at t3
      rw [hbo] at u3
      have HUp := Hid.mk (fun e => takeQ_up hkx hky HQ.out e)
      have HNo := Hid.mk (fun e => takeQ_no hkx hky e)
      generalize aK[k] = x at *
      generalize bK[k] = y at *
      have R0 := fun d os => cell_regrown c0 d os
      have S0 := fun d os => cell_regrown d0 d os
      have T3 := fun d os => cell_regrown t3 d os
      have U3 := fun d os => cell_regrown u3 d os
      clear hrow hrow2 hbl hbl2 hkx hky c0 d0 hao hbo
      cases hc : (x.toList == y.toList) with
      | true =>
        have HQ2 := Hid.mk (HUp.out (beqQ_yes hc))
        have hc2 : (x.toList != y.toList) = false := by simp only [bne]; rw [hc]; rfl
        clear HUp HNo
        go_wp2_with fail
        refine wp_region_quiet_below (by kernel_rfl) (by kernel_rfl) ?_
        repeat (go_big_quiet_step (fail))
        refine wpQuiet_nil ?_
        intro w3 hw'
        have HB3 : Hid (Bb w #[.int .i64 ka, .string an, .string ax, .slice aio N aic, .slice ako NK akc] #[.int .i64 ka, .string an, .string ax, .slice bio N bic, .slice bko NK bkc] 25 w3) := by
          obtain ⟨⟨dq, osq⟩, rfl⟩ := hw'
          exact HBw.out.keep (below_regrown wr dq osq)
        clear hw' R0 S0 T3 U3 t3 u3
        go_wp2_with fail
        go_roundw
        case rel => exact ⟨k + 1, by omega, by go_num, HB3, HQ2⟩
        case measure => simp [intOf]; omega
      | false =>
        have HT : Hid (R = false) := HR.out.symm.trans (sq_no (fun e => HNo.out (beqQ_no hc) ((VT.mk.inj e).2.2.2.2)))
        have hc2 : (x.toList != y.toList) = true := by simp only [bne]; rw [hc]; rfl
        clear HUp HNo
        go_wp2_with fail
        refine wp_region_quiet_below (by kernel_rfl) (by kernel_rfl) ?_
        repeat (go_big_quiet_step (fail))
        refine wpQuiet_nil ?_
        intro w3 hw'
        have HB3 : Hid (Bb w #[.int .i64 ka, .string an, .string ax, .slice aio N aic, .slice ako NK akc] #[.int .i64 ka, .string an, .string ax, .slice bio N bic, .slice bko NK bkc] 25 w3) := by
          obtain ⟨⟨dq, osq⟩, rfl⟩ := hw'
          exact HBw.out.keep (below_regrown wr dq osq)
        clear hw' R0 S0 T3 U3 t3 u3
        go_wp2_with fail
        go_ret
        exact ⟨by rw [HT.out]; rfl, HB3.out.below⟩
    · have hl1 : ¬ (k : Int) < (NK : Int) := by omega
      have HKK : Hid (aK = bK) := by
        have e := HQ.out
        rw [List.take_of_length_le (by rw [← HNK.out.1]; omega), List.take_of_length_le (by rw [← HNK.out.2]; omega)] at e
        exact e
      clear HQ
      go_wp2_with fail
      clear t3 u3 hk hlt hl1
      have HBs := HBw
      clear HBw
      go_loopw [6] (fun i wr => ∃ k : Nat, k ≤ N ∧ i = .int .i64 (k : Int) ∧ Hid (Bb w #[.int .i64 ka, .string an, .string ax, .slice aio N aic, .slice ako NK akc] #[.int .i64 ka, .string an, .string ax, .slice bio N bic, .slice bko NK bkc] 25 wr) ∧ Hid (aI.take k = bI.take k)) (fun i _ => N - (intOf i).toNat)
      case atStart => exact ⟨0, Nat.zero_le _, rfl, HBs, rfl⟩
      case round =>
        obtain ⟨k, hk, rfl, HBw, HQ⟩ := hrel
        have t3 := HBw.out.ca (j := 3) rfl
        have u3 := HBw.out.cb (j := 3) rfl
        by_cases hlt : k < N
        · have hl1 : (k : Int) < (N : Int) := by omega
          have hl0 : (0 : Int) ≤ (k : Int) := by omega
          have hkx : k < aI.length := by rw [← HN.out.1]; exact hlt
          have hky : k < bI.length := by rw [← HN.out.2]; exact hlt
          obtain ⟨b, off, b2, off2, e0, e1, e2, e3, e4, f0, f1, f2, f3, f4, qq1, qq2, HCj⟩ := HI.out k hkx hky
          rw [qq1] at t3
          rw [qq2] at u3
          obtain ⟨z0, z1, z2, z3, z4, z5, z6, z7, z8, z9, HCk⟩ := HCj wr HBw.out.below
          have HCr : Hid (∀ d os, Calls Tryz.prog 23 #[.agg #[e0, e1, e2, e3, e4], .agg #[f0, f1, f2, f3, f4]] (grow (redrawn wr d) os) fun e w' => e = .returned (.bool (sq aI[k] bI[k])) ∧ Below (grow (redrawn wr d) os).heap.size (grow (redrawn wr d) os) w') := fun d os => HCk _ (below_regrown wr d os)
          have T3 := fun d os => cell_regrown t3 d os
          have U3 := fun d os => cell_regrown u3 d os
          have Z0 := fun d os => cell_regrown z0 d os
          have Z1 := fun d os => cell_regrown z1 d os
          have Z2 := fun d os => cell_regrown z2 d os
          have Z3 := fun d os => cell_regrown z3 d os
          have Z4 := fun d os => cell_regrown z4 d os
          have Z5 := fun d os => cell_regrown z5 d os
          have Z6 := fun d os => cell_regrown z6 d os
          have Z7 := fun d os => cell_regrown z7 d os
          have Z8 := fun d os => cell_regrown z8 d os
          have Z9 := fun d os => cell_regrown z9 d os
          clear HCk HCj qq1 qq2 z0 z1 z2 z3 z4 z5 z6 z7 z8 z9
          have HUp := Hid.mk (fun e => takeQ_up hkx hky HQ.out e)
          have HNo := Hid.mk (fun e => takeQ_no hkx hky e)
          by_cases he : aI[k] = bI[k]
          · have HQ2 := Hid.mk (HUp.out he)
            rw [sq_iff.2 he] at HCr
            clear HUp HNo he hkx hky
            go_wp2_with fail
            refine wp_region_quiet_below (by kernel_rfl) (by kernel_rfl) ?_
            repeat (go_big_quiet_step (exact Calls.regrown_of (HCr.out _ _)))
            refine wpQuiet_nil ?_
            intro w3 hw'
            have HB3 : Hid (Bb w #[.int .i64 ka, .string an, .string ax, .slice aio N aic, .slice ako NK akc] #[.int .i64 ka, .string an, .string ax, .slice bio N bic, .slice bko NK bkc] 25 w3) := by
              obtain ⟨⟨dq, osq⟩, rfl⟩ := hw'
              exact HBw.out.keep (below_regrown wr dq osq)
            clear hw' T3 U3 t3 u3 Z0 Z1 Z2 Z3 Z4 Z5 Z6 Z7 Z8 Z9
            go_wp2_with fail
            go_roundw
            case rel => exact ⟨k + 1, by omega, by go_num, HB3, HQ2⟩
            case measure => simp [intOf]; omega
          · have HT : Hid (R = false) := HR.out.symm.trans (sq_no (fun e => HNo.out he (VT.mk.inj e).2.2.2.1))
            rw [sq_no he] at HCr
            clear HUp HNo he hkx hky
            go_wp2_with fail
            refine wp_region_quiet_below (by kernel_rfl) (by kernel_rfl) ?_
            repeat (go_big_quiet_step (exact Calls.regrown_of (HCr.out _ _)))
            refine wpQuiet_nil ?_
            intro w3 hw'
            have HB3 : Hid (Bb w #[.int .i64 ka, .string an, .string ax, .slice aio N aic, .slice ako NK akc] #[.int .i64 ka, .string an, .string ax, .slice bio N bic, .slice bko NK bkc] 25 w3) := by
              obtain ⟨⟨dq, osq⟩, rfl⟩ := hw'
              exact HBw.out.keep (below_regrown wr dq osq)
            clear hw' T3 U3 t3 u3 Z0 Z1 Z2 Z3 Z4 Z5 Z6 Z7 Z8 Z9
            go_wp2_with fail
            go_ret
            exact ⟨by rw [HT.out]; rfl, HB3.out.below⟩
        · have hl1 : ¬ (k : Int) < (N : Int) := by omega
          have HT : Hid (R = true) := by
            have e := HQ.out
            rw [List.take_of_length_le (by rw [← HN.out.1]; omega), List.take_of_length_le (by rw [← HN.out.2]; omega)] at e
            refine HR.out.symm.trans (sq_iff.2 ?_)
            rw [e, HKK.out]
          go_wp2_with fail
          go_ret
          exact ⟨by rw [HT.out]; rfl, HBw.out.below⟩
theorem w_rAlike : ∀ h, RaOk h
  | 0 => fun _ _ _ _ _ hA _ => hA.elim
  | h + 1 => ral_step h (w_rAlike h)
end Go.Proofs.YtdjleoglphgdgaaGreatDoor
namespace Go.Proofs.YtdjleoglphgdgaaGreatDoor
open Go.RowKit Go.Shelf Go.Sort
set_option linter.unusedVariables false
set_option linter.unusedSimpArgs false
attribute [local go_sem] Oper.semAt_some

def RsOk (h : Nat) : Prop := ∀ (A B : NT) (va vb : Value) (w : World), InA w h A va → InA w h B vb → Calls Tryz.prog 14 #[va, vb] w fun e w' => e = .returned (.bool (sq (noA A) (noA B))) ∧ Below w.heap.size w w'

set_option maxRecDepth 100000 in
set_option maxHeartbeats 6400000 in
theorem rsm_step (h : Nat) (ih : RsOk h) : RsOk (h + 1) := by
  rintro ⟨aop, aat, atx, ⟨avk, avn, avx, avI, avK⟩, aK, aI⟩ ⟨bop, bat, btx, ⟨bvk, bvn, bvx, bvI, bvK⟩, bK, bI⟩ va vb w ⟨aio, aic, ayo, ayc, ano, anc, ako, akc, rfl, _, a2, a3, a4, hna, hka⟩ ⟨bio, bic, byo, byc, bno, bnc, bko, bkc, rfl, _, b2, b3, b4, hnb, hkb⟩
  simp only [NT.op, NT.at_, NT.text, NT.value, NT.names, NT.kids, VT.kind, VT.num, VT.text, VT.items, VT.keys] at *
  obtain ⟨R, HR⟩ : ∃ R, Hid (sq (noA (NT.mk aop aat atx (VT.mk avk avn avx avI avK) aK aI)) (noA (NT.mk bop bat btx (VT.mk bvk bvn bvx bvI bvK) bK bI)) = R) := ⟨_, rfl⟩
  rw [HR.out]
  have HEq : Hid (noA (NT.mk aop aat atx (VT.mk avk avn avx avI avK) aK aI) = noA (NT.mk bop bat btx (VT.mk bvk bvn bvx bvI bvK) bK bI) ↔ aop = bop ∧ atx = btx ∧ VT.mk avk avn avx avI avK = VT.mk bvk bvn bvx bvI bvK ∧ aK = bK ∧ noAs aI = noAs bI) := noA_eq
  have HV : Hid (∀ u, Below w.heap.size w u → Calls Tryz.prog 23 #[.agg #[.int .i64 avk, .string avn, .string avx, .slice aio avI.length aic, .slice ayo avK.length ayc], .agg #[.int .i64 bvk, .string bvn, .string bvx, .slice bio bvI.length bic, .slice byo bvK.length byc]] u fun e w' => e = .returned (.bool (sq (VT.mk avk avn avx avI avK) (VT.mk bvk bvn bvx bvI bvK))) ∧ Below u.heap.size u w') := fun u hu => w_rAlike (h + 1) _ _ _ _ u (a2.toH.keep hu) (b2.toH.keep hu)
  have HKa : Hid (KIn w ano aK) := ⟨fun h0 => by obtain ⟨b, off, e, _, hl, hc⟩ := hna h0; exact ⟨b, off, e, hl, hc⟩⟩
  have HKb : Hid (KIn w bno bK) := ⟨fun h0 => by obtain ⟨b, off, e, _, hl, hc⟩ := hnb h0; exact ⟨b, off, e, hl, hc⟩⟩
  have HI : Hid (∀ (k : Nat) (h1 : k < aI.length) (h2 : k < bI.length), ∃ b off b2 off2 e0 e1 e2 e3 e4 e5 e6 e7 e8 e9 f0 f1 f2 f3 f4 f5 f6 f7 f8 f9, ako = some ⟨b, off, none⟩ ∧ bko = some ⟨b2, off2, none⟩ ∧ ∀ u, Below w.heap.size w u → u.cell? ⟨b, off + k * 10, none⟩ = some e0 ∧ u.cell? ⟨b, off + k * 10 + 1, none⟩ = some e1 ∧ u.cell? ⟨b, off + k * 10 + 2, none⟩ = some e2 ∧ u.cell? ⟨b, off + k * 10 + 3, none⟩ = some e3 ∧ u.cell? ⟨b, off + k * 10 + 4, none⟩ = some e4 ∧ u.cell? ⟨b, off + k * 10 + 5, none⟩ = some e5 ∧ u.cell? ⟨b, off + k * 10 + 6, none⟩ = some e6 ∧ u.cell? ⟨b, off + k * 10 + 7, none⟩ = some e7 ∧ u.cell? ⟨b, off + k * 10 + 8, none⟩ = some e8 ∧ u.cell? ⟨b, off + k * 10 + 9, none⟩ = some e9 ∧ u.cell? ⟨b2, off2 + k * 10, none⟩ = some f0 ∧ u.cell? ⟨b2, off2 + k * 10 + 1, none⟩ = some f1 ∧ u.cell? ⟨b2, off2 + k * 10 + 2, none⟩ = some f2 ∧ u.cell? ⟨b2, off2 + k * 10 + 3, none⟩ = some f3 ∧ u.cell? ⟨b2, off2 + k * 10 + 4, none⟩ = some f4 ∧ u.cell? ⟨b2, off2 + k * 10 + 5, none⟩ = some f5 ∧ u.cell? ⟨b2, off2 + k * 10 + 6, none⟩ = some f6 ∧ u.cell? ⟨b2, off2 + k * 10 + 7, none⟩ = some f7 ∧ u.cell? ⟨b2, off2 + k * 10 + 8, none⟩ = some f8 ∧ u.cell? ⟨b2, off2 + k * 10 + 9, none⟩ = some f9 ∧ ∀ u', Below u.heap.size u u' → Calls Tryz.prog 14 #[.agg #[e0, e1, e2, e3, e4, e5, e6, e7, e8, e9], .agg #[f0, f1, f2, f3, f4, f5, f6, f7, f8, f9]] u' fun e w' => e = .returned (.bool (sq (noA aI[k]) (noA bI[k]))) ∧ Below u'.heap.size u' w') := fun k h1 h2 => by
    obtain ⟨b, off, q1, _, hl1, hr1⟩ := hka (by omega)
    obtain ⟨b2, off2, q2, _, hl2, hr2⟩ := hkb (by omega)
    obtain ⟨c, p, i1⟩ := hr1 k h1
    obtain ⟨d, q, i2⟩ := hr2 k h2
    refine ⟨b, off, b2, off2, c 0, c 1, c 2, c 3, c 4, c 5, c 6, c 7, c 8, c 9, d 0, d 1, d 2, d 3, d 4, d 5, d 6, d 7, d 8, d 9, q1, q2, fun u hu => ?_⟩
    have cc : ∀ g o v, g < w.heap.size → w.cell? ⟨g, o, none⟩ = some v → u.cell? ⟨g, o, none⟩ = some v := fun g o v hg h => (hu.cell (p := ⟨g, o, none⟩) hg).trans h
    exact ⟨cc _ _ _ hl1 (p 0), cc _ _ _ hl1 (p 1), cc _ _ _ hl1 (p 2), cc _ _ _ hl1 (p 3), cc _ _ _ hl1 (p 4), cc _ _ _ hl1 (p 5), cc _ _ _ hl1 (p 6), cc _ _ _ hl1 (p 7), cc _ _ _ hl1 (p 8), cc _ _ _ hl1 (p 9), cc _ _ _ hl2 (q 0), cc _ _ _ hl2 (q 1), cc _ _ _ hl2 (q 2), cc _ _ _ hl2 (q 3), cc _ _ _ hl2 (q 4), cc _ _ _ hl2 (q 5), cc _ _ _ hl2 (q 6), cc _ _ _ hl2 (q 7), cc _ _ _ hl2 (q 8), cc _ _ _ hl2 (q 9), fun u' hu' => ih _ _ _ _ u' ((InN.low i1 hu).low hu') ((InN.low i2 hu).low hu')⟩
  have HM : Hid (aI.length ≤ akc ∧ bI.length ≤ bkc ∧ aI.length ≤ 140737488355328 ∧ bI.length ≤ 140737488355328) := ⟨a4.1, b4.1, a4.2, b4.2⟩
  have HM2 : Hid (aK.length ≤ anc ∧ bK.length ≤ bnc ∧ aK.length ≤ 140737488355328 ∧ bK.length ≤ 140737488355328) := ⟨a3.1, b3.1, a3.2.1, b3.2.1⟩
  clear a2 a3 a4 hna hka b2 b3 b4 hnb hkb
  generalize VT.mk avk avn avx avI avK = aV at *
  generalize VT.mk bvk bvn bvx bvI bvK = bV at *
  generalize avI.length = avi at *
  generalize avK.length = avy at *
  generalize bvI.length = bvi at *
  generalize bvK.length = bvy at *
  obtain ⟨W1, hW1⟩ : ∃ W1, (w.alloc (.cells #[.int .i64 aop, .int .i64 aat, .string atx, .int .i64 avk, .string avn, .string avx, .slice aio avi aic, .slice ayo avy ayc, .slice ano aK.length anc, .slice ako aI.length akc] 28)).alloc (.cells #[.int .i64 bop, .int .i64 bat, .string btx, .int .i64 bvk, .string bvn, .string bvx, .slice bio bvi bic, .slice byo bvy byc, .slice bno bK.length bnc, .slice bko bI.length bkc] 28) = W1 := ⟨_, rfl⟩
  have HX := Hid.mk (Bb.new hW1)
  have x0 := HX.out.ca (j := 0) rfl
  have y0 := HX.out.cb (j := 0) rfl
  have x1 := HX.out.ca (j := 1) rfl
  have y1 := HX.out.cb (j := 1) rfl
  have x2 := HX.out.ca (j := 2) rfl
  have y2 := HX.out.cb (j := 2) rfl
  have x3 := HX.out.ca (j := 3) rfl
  have y3 := HX.out.cb (j := 3) rfl
  have x4 := HX.out.ca (j := 4) rfl
  have y4 := HX.out.cb (j := 4) rfl
  have x5 := HX.out.ca (j := 5) rfl
  have y5 := HX.out.cb (j := 5) rfl
  have x6 := HX.out.ca (j := 6) rfl
  have y6 := HX.out.cb (j := 6) rfl
  have x7 := HX.out.ca (j := 7) rfl
  have y7 := HX.out.cb (j := 7) rfl
  have x8 := HX.out.ca (j := 8) rfl
  have y8 := HX.out.cb (j := 8) rfl
  have x9 := HX.out.ca (j := 9) rfl
  have y9 := HX.out.cb (j := 9) rfl
  by_cases hk : aop = bop
  rotate_left
  · have HT : Hid (R = false) := HR.out.symm.trans (sq_no (fun e => hk (HEq.out.1 e).1))
    have g1 : (aop != bop) = true := by simpa using hk
    go_enter Tryz.func14, Tryz.ntmps14
    go_wp2_with fail
    go_ret
    exact ⟨by rw [HT.out]; rfl, HX.out.below⟩
  subst hk
  have g1 : (aop != aop) = false := by simp
  by_cases hx : atx = btx
  rotate_left
  · have HT : Hid (R = false) := HR.out.symm.trans (sq_no (fun e => hx (HEq.out.1 e).2.1))
    have g3 : (atx.toList == btx.toList) = false := by cases hc : (atx.toList == btx.toList) with
      | true => exact absurd (beqQ_yes hc) hx
      | false => rfl
    have g3x : (atx.toList != btx.toList) = true := by simp only [bne]; rw [g3]; rfl
    go_enter Tryz.func14, Tryz.ntmps14
    go_wp2_with fail
    go_ret
    exact ⟨by rw [HT.out]; rfl, HX.out.below⟩
  subst hx
  have g3 : (atx.toList != atx.toList) = false := by simp
  by_cases hl : aK.length = bK.length
  rotate_left
  · have HT : Hid (R = false) := HR.out.symm.trans (sq_no (fun e => hl (congrArg List.length (HEq.out.1 e).2.2.2.1)))
    have g5 : ((aK.length : Int) != (bK.length : Int)) = true := by simp; omega
    go_enter Tryz.func14, Tryz.ntmps14
    go_wp2_with fail
    go_ret
    exact ⟨by rw [HT.out]; rfl, HX.out.below⟩
  have g5 : ((aK.length : Int) != (bK.length : Int)) = false := by simp; omega
  have HLK := Hid.mk hl
  clear hl
  by_cases hl : aI.length = bI.length
  rotate_left
  · have HT : Hid (R = false) := HR.out.symm.trans (sq_no (fun e => hl (noAs_len_eq (HEq.out.1 e).2.2.2.2)))
    have g4 : ((aI.length : Int) != (bI.length : Int)) = true := by simp; omega
    go_enter Tryz.func14, Tryz.ntmps14
    go_wp2_with fail
    go_ret
    exact ⟨by rw [HT.out]; rfl, HX.out.below⟩
  have g4 : ((aI.length : Int) != (bI.length : Int)) = false := by simp; omega
  have HL := Hid.mk hl
  clear hl
  obtain ⟨N, hN⟩ : ∃ N, N = aI.length := ⟨_, rfl⟩
  obtain ⟨NK, hNK⟩ : ∃ N, N = aK.length := ⟨_, rfl⟩
  have HN : Hid (N = aI.length ∧ N = bI.length) := ⟨hN, hN.trans HL.out⟩
  have HNK : Hid (NK = aK.length ∧ NK = bK.length) := ⟨hNK, hNK.trans HLK.out⟩
  rw [← HN.out.1, ← HN.out.2] at HM g4
  rw [← HNK.out.1, ← HNK.out.2] at HM2 g5
  simp only [← HN.out.1, ← HNK.out.1] at HX x8 x9 hW1
  simp only [← HN.out.2, ← HNK.out.2] at HX y8 y9 hW1
  simp only [← HN.out.1, ← HNK.out.1, ← HN.out.2, ← HNK.out.2]
  have hcap := HM.out.1
  have hcap2 := HM.out.2.1
  have hbig := HM.out.2.2.1
  have hcap3 := HM2.out.1
  have hcap4 := HM2.out.2.1
  have hbig2 := HM2.out.2.2.1
  clear hN hNK
  by_cases hv : aV = bV
  rotate_left
  · have HT : Hid (R = false) := HR.out.symm.trans (sq_no (fun e => hv (HEq.out.1 e).2.2.1))
    rw [sq_no hv] at HV
    go_enter Tryz.func14, Tryz.ntmps14
    go_wp2_with fail
    refine (HV.out _ HX.out.below).mono ?_
    rintro e w2 ⟨rfl, hb2⟩
    have HX2 := Hid.mk (HX.out.keep hb2)
    clear hb2
    go_wp2_with fail
    go_ret
    exact ⟨by rw [HT.out]; rfl, HX2.out.below⟩
  rw [sq_iff.2 hv] at HV
  have HVV := Hid.mk hv
  clear hv
  go_enter Tryz.func14, Tryz.ntmps14
  go_wp2_with fail
  refine (HV.out _ HX.out.below).mono ?_
  rintro e w2 ⟨rfl, hb2⟩
  have HX2 := Hid.mk (HX.out.keep hb2)
  clear hb2 hW1 x0 y0 x1 y1 x2 y2 x3 y3 x4 y4 x5 y5 x6 y6 x7 y7 x8 y8 x9 y9
  go_wp2_with fail
  go_loopw [5] (fun i wr => ∃ k : Nat, k ≤ NK ∧ i = .int .i64 (k : Int) ∧ Hid (Bb w #[.int .i64 aop, .int .i64 aat, .string atx, .int .i64 avk, .string avn, .string avx, .slice aio avi aic, .slice ayo avy ayc, .slice ano NK anc, .slice ako N akc] #[.int .i64 aop, .int .i64 bat, .string atx, .int .i64 bvk, .string bvn, .string bvx, .slice bio bvi bic, .slice byo bvy byc, .slice bno NK bnc, .slice bko N bkc] 28 wr) ∧ Hid (aK.take k = bK.take k)) (fun i _ => NK - (intOf i).toNat)
  case atStart => exact ⟨0, Nat.zero_le _, rfl, HX2, rfl⟩
  case round =>
    obtain ⟨k, hk, rfl, HBw, HQ⟩ := hrel
    have t3 := HBw.out.ca (j := 8) rfl
    have u3 := HBw.out.cb (j := 8) rfl
    by_cases hlt : k < NK
    · have hl1 : (k : Int) < (NK : Int) := by omega
      have hl0 : (0 : Int) ≤ (k : Int) := by omega
      have hkx : k < aK.length := by rw [← HNK.out.1]; exact hlt
      have hky : k < bK.length := by rw [← HNK.out.2]; exact hlt
      obtain ⟨b, off, hao, hbl, hrow⟩ := (HKa.out.keep HBw.out.below).row (by omega)
      obtain ⟨b2, off2, hbo, hbl2, hrow2⟩ := (HKb.out.keep HBw.out.below).row (by omega)
      have c0 := hrow k hkx
      have d0 := hrow2 k hky
      rw [getD_keyQ hkx] at c0
      rw [getD_keyQ hky] at d0
      rw [hao] at t3
      rw [hbo] at u3
      have HUp := Hid.mk (fun e => takeQ_up hkx hky HQ.out e)
      have HNo := Hid.mk (fun e => takeQ_no hkx hky e)
      generalize aK[k] = x at *
      generalize bK[k] = y at *
      have R0 := fun d os => cell_regrown c0 d os
      have S0 := fun d os => cell_regrown d0 d os
      have T3 := fun d os => cell_regrown t3 d os
      have U3 := fun d os => cell_regrown u3 d os
      clear hrow hrow2 hbl hbl2 hkx hky c0 d0 hao hbo
      cases hc : (x.toList == y.toList) with
      | true =>
        have HQ2 := Hid.mk (HUp.out (beqQ_yes hc))
        have hc2 : (x.toList != y.toList) = false := by simp only [bne]; rw [hc]; rfl
        clear HUp HNo
        go_wp2_with fail
        refine wp_region_quiet_below (by kernel_rfl) (by kernel_rfl) ?_
        repeat (go_big_quiet_step (fail))
        refine wpQuiet_nil ?_
        intro w3 hw'
        have HB3 : Hid (Bb w #[.int .i64 aop, .int .i64 aat, .string atx, .int .i64 avk, .string avn, .string avx, .slice aio avi aic, .slice ayo avy ayc, .slice ano NK anc, .slice ako N akc] #[.int .i64 aop, .int .i64 bat, .string atx, .int .i64 bvk, .string bvn, .string bvx, .slice bio bvi bic, .slice byo bvy byc, .slice bno NK bnc, .slice bko N bkc] 28 w3) := by
          obtain ⟨⟨dq, osq⟩, rfl⟩ := hw'
          exact HBw.out.keep (below_regrown wr dq osq)
        clear hw' R0 S0 T3 U3 t3 u3
        go_wp2_with fail
        go_roundw
        case rel => exact ⟨k + 1, by omega, by go_num, HB3, HQ2⟩
        case measure => simp [intOf]; omega
      | false =>
        have HT : Hid (R = false) := HR.out.symm.trans (sq_no (fun e => HNo.out (beqQ_no hc) ((HEq.out.1 e).2.2.2.1)))
        have hc2 : (x.toList != y.toList) = true := by simp only [bne]; rw [hc]; rfl
        clear HUp HNo
        go_wp2_with fail
        refine wp_region_quiet_below (by kernel_rfl) (by kernel_rfl) ?_
        repeat (go_big_quiet_step (fail))
        refine wpQuiet_nil ?_
        intro w3 hw'
        have HB3 : Hid (Bb w #[.int .i64 aop, .int .i64 aat, .string atx, .int .i64 avk, .string avn, .string avx, .slice aio avi aic, .slice ayo avy ayc, .slice ano NK anc, .slice ako N akc] #[.int .i64 aop, .int .i64 bat, .string atx, .int .i64 bvk, .string bvn, .string bvx, .slice bio bvi bic, .slice byo bvy byc, .slice bno NK bnc, .slice bko N bkc] 28 w3) := by
          obtain ⟨⟨dq, osq⟩, rfl⟩ := hw'
          exact HBw.out.keep (below_regrown wr dq osq)
        clear hw' R0 S0 T3 U3 t3 u3
        go_wp2_with fail
        go_ret
        exact ⟨by rw [HT.out]; rfl, HB3.out.below⟩
    · have hl1 : ¬ (k : Int) < (NK : Int) := by omega
      have HKK : Hid (aK = bK) := by
        have e := HQ.out
        rw [List.take_of_length_le (by rw [← HNK.out.1]; omega), List.take_of_length_le (by rw [← HNK.out.2]; omega)] at e
        exact e
      clear HQ
      go_wp2_with fail
      clear t3 u3 hk hlt hl1
      have HBs := HBw
      clear HBw
      go_loopw [6] (fun i wr => ∃ k : Nat, k ≤ N ∧ i = .int .i64 (k : Int) ∧ Hid (Bb w #[.int .i64 aop, .int .i64 aat, .string atx, .int .i64 avk, .string avn, .string avx, .slice aio avi aic, .slice ayo avy ayc, .slice ano NK anc, .slice ako N akc] #[.int .i64 aop, .int .i64 bat, .string atx, .int .i64 bvk, .string bvn, .string bvx, .slice bio bvi bic, .slice byo bvy byc, .slice bno NK bnc, .slice bko N bkc] 28 wr) ∧ Hid (∀ i, (h1 : i < aI.length) → (h2 : i < bI.length) → i < k → noA aI[i] = noA bI[i])) (fun i _ => N - (intOf i).toNat)
      case atStart => exact ⟨0, Nat.zero_le _, rfl, HBs, fun i _ _ hi => absurd hi (Nat.not_lt_zero _)⟩
      case round =>
        obtain ⟨k, hk, rfl, HBw, HQ⟩ := hrel
        have t3 := HBw.out.ca (j := 9) rfl
        have u3 := HBw.out.cb (j := 9) rfl
        by_cases hlt : k < N
        · have hl1 : (k : Int) < (N : Int) := by omega
          have hl0 : (0 : Int) ≤ (k : Int) := by omega
          have hkx : k < aI.length := by rw [← HN.out.1]; exact hlt
          have hky : k < bI.length := by rw [← HN.out.2]; exact hlt
          obtain ⟨b, off, b2, off2, e0, e1, e2, e3, e4, e5, e6, e7, e8, e9, f0, f1, f2, f3, f4, f5, f6, f7, f8, f9, qq1, qq2, HCj⟩ := HI.out k hkx hky
          rw [qq1] at t3
          rw [qq2] at u3
          obtain ⟨z0, z1, z2, z3, z4, z5, z6, z7, z8, z9, z10, z11, z12, z13, z14, z15, z16, z17, z18, z19, HCk⟩ := HCj wr HBw.out.below
          have HCr : Hid (∀ d os, Calls Tryz.prog 14 #[.agg #[e0, e1, e2, e3, e4, e5, e6, e7, e8, e9], .agg #[f0, f1, f2, f3, f4, f5, f6, f7, f8, f9]] (grow (redrawn wr d) os) fun e w' => e = .returned (.bool (sq (noA aI[k]) (noA bI[k]))) ∧ Below (grow (redrawn wr d) os).heap.size (grow (redrawn wr d) os) w') := fun d os => HCk _ (below_regrown wr d os)
          have T3 := fun d os => cell_regrown t3 d os
          have U3 := fun d os => cell_regrown u3 d os
          have Z0 := fun d os => cell_regrown z0 d os
          have Z1 := fun d os => cell_regrown z1 d os
          have Z2 := fun d os => cell_regrown z2 d os
          have Z3 := fun d os => cell_regrown z3 d os
          have Z4 := fun d os => cell_regrown z4 d os
          have Z5 := fun d os => cell_regrown z5 d os
          have Z6 := fun d os => cell_regrown z6 d os
          have Z7 := fun d os => cell_regrown z7 d os
          have Z8 := fun d os => cell_regrown z8 d os
          have Z9 := fun d os => cell_regrown z9 d os
          have Z10 := fun d os => cell_regrown z10 d os
          have Z11 := fun d os => cell_regrown z11 d os
          have Z12 := fun d os => cell_regrown z12 d os
          have Z13 := fun d os => cell_regrown z13 d os
          have Z14 := fun d os => cell_regrown z14 d os
          have Z15 := fun d os => cell_regrown z15 d os
          have Z16 := fun d os => cell_regrown z16 d os
          have Z17 := fun d os => cell_regrown z17 d os
          have Z18 := fun d os => cell_regrown z18 d os
          have Z19 := fun d os => cell_regrown z19 d os
          clear HCk HCj qq1 qq2 z0 z1 z2 z3 z4 z5 z6 z7 z8 z9 z10 z11 z12 z13 z14 z15 z16 z17 z18 z19
          have HNo := Hid.mk (fun (e : noAs aI = noAs bI) => noAs_at e hkx hky)
          by_cases he : noA aI[k] = noA bI[k]
          · have HQ2 : Hid (∀ i, (h1 : i < aI.length) → (h2 : i < bI.length) → i < k + 1 → noA aI[i] = noA bI[i]) := fun i h1 h2 hi => by
              by_cases e : i = k
              · subst e; exact he
              · exact HQ.out i h1 h2 (by omega)
            rw [sq_iff.2 he] at HCr
            clear HNo he hkx hky
            go_wp2_with fail
            refine wp_region_quiet_below (by kernel_rfl) (by kernel_rfl) ?_
            repeat (go_big_quiet_step (exact Calls.regrown_of (HCr.out _ _)))
            refine wpQuiet_nil ?_
            intro w3 hw'
            have HB3 : Hid (Bb w #[.int .i64 aop, .int .i64 aat, .string atx, .int .i64 avk, .string avn, .string avx, .slice aio avi aic, .slice ayo avy ayc, .slice ano NK anc, .slice ako N akc] #[.int .i64 aop, .int .i64 bat, .string atx, .int .i64 bvk, .string bvn, .string bvx, .slice bio bvi bic, .slice byo bvy byc, .slice bno NK bnc, .slice bko N bkc] 28 w3) := by
              obtain ⟨⟨dq, osq⟩, rfl⟩ := hw'
              exact HBw.out.keep (below_regrown wr dq osq)
            clear hw' T3 U3 t3 u3 Z0 Z1 Z2 Z3 Z4 Z5 Z6 Z7 Z8 Z9 Z10 Z11 Z12 Z13 Z14 Z15 Z16 Z17 Z18 Z19
            go_wp2_with fail
            go_roundw
            case rel => exact ⟨k + 1, by omega, by go_num, HB3, HQ2⟩
            case measure => simp [intOf]; omega
          · have HT : Hid (R = false) := HR.out.symm.trans (sq_no (fun e => he (HNo.out (HEq.out.1 e).2.2.2.2)))
            rw [sq_no he] at HCr
            clear HNo he hkx hky
            go_wp2_with fail
            refine wp_region_quiet_below (by kernel_rfl) (by kernel_rfl) ?_
            repeat (go_big_quiet_step (exact Calls.regrown_of (HCr.out _ _)))
            refine wpQuiet_nil ?_
            intro w3 hw'
            have HB3 : Hid (Bb w #[.int .i64 aop, .int .i64 aat, .string atx, .int .i64 avk, .string avn, .string avx, .slice aio avi aic, .slice ayo avy ayc, .slice ano NK anc, .slice ako N akc] #[.int .i64 aop, .int .i64 bat, .string atx, .int .i64 bvk, .string bvn, .string bvx, .slice bio bvi bic, .slice byo bvy byc, .slice bno NK bnc, .slice bko N bkc] 28 w3) := by
              obtain ⟨⟨dq, osq⟩, rfl⟩ := hw'
              exact HBw.out.keep (below_regrown wr dq osq)
            clear hw' T3 U3 t3 u3 Z0 Z1 Z2 Z3 Z4 Z5 Z6 Z7 Z8 Z9 Z10 Z11 Z12 Z13 Z14 Z15 Z16 Z17 Z18 Z19
            go_wp2_with fail
            go_ret
            exact ⟨by rw [HT.out]; rfl, HB3.out.below⟩
        · have hl1 : ¬ (k : Int) < (N : Int) := by omega
          have HT : Hid (R = true) := HR.out.symm.trans (sq_iff.2 (HEq.out.2 ⟨by first | rfl | trivial, by first | rfl | trivial, HVV.out, HKK.out, noAs_eq HL.out (fun i h1 h2 => HQ.out i h1 h2 (by rw [← HN.out.1] at h1; omega))⟩))
          go_wp2_with fail
          go_ret
          exact ⟨by rw [HT.out]; rfl, HBw.out.below⟩
theorem w_rSameN : ∀ h, RsOk h
  | 0 => fun _ _ _ _ _ hA _ => hA.elim
  | h + 1 => rsm_step h (w_rSameN h)
end Go.Proofs.YtdjleoglphgdgaaGreatDoor
