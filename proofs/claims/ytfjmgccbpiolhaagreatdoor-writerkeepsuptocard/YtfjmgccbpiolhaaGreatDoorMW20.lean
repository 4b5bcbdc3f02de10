import Derived.Test.YtfjmgccbpiolhaaGreatDoorMW19
import Derived.Lib.QuietBelow
import Derived.BigQuiet
namespace Go.Proofs.YtfjmgccbpiolhaaGreatDoor
open Go.RowKit Go.Shelf Go.Sort
set_option linter.unusedVariables false
set_option linter.unusedSimpArgs false
attribute [local go_sem] Oper.semAt_some

theorem item_at {w : World} {h : Nat} {b off : Nat} {ts : List VT} (hrow : ∀ i, (hi : i < ts.length) → ∃ v0 v1 v2 v3 v4 : Value,
        (w.cell? ⟨b, off + i * 5, none⟩ = some v0 ∧ w.cell? ⟨b, off + i * 5 + 1, none⟩ = some v1 ∧ w.cell? ⟨b, off + i * 5 + 2, none⟩ = some v2 ∧ w.cell? ⟨b, off + i * 5 + 3, none⟩ = some v3 ∧ w.cell? ⟨b, off + i * 5 + 4, none⟩ = some v4) ∧ InH w h ts[i] (.agg #[v0, v1, v2, v3, v4])) {i : Nat} (hi : i < ts.length) :
    ∃ (k : Int) (n t : ByteArray) (io : Option Addr) (N icap : Nat) (ko : Option Addr) (K kcap : Nat), (w.cell? ⟨b, off + i * 5, none⟩ = some (.int .i64 k) ∧ w.cell? ⟨b, off + i * 5 + 1, none⟩ = some (.string n) ∧ w.cell? ⟨b, off + i * 5 + 2, none⟩ = some (.string t) ∧ w.cell? ⟨b, off + i * 5 + 3, none⟩ = some (.slice io N icap) ∧ w.cell? ⟨b, off + i * 5 + 4, none⟩ = some (.slice ko K kcap)) ∧ InH w h ts[i] (.agg #[.int .i64 k, .string n, .string t, .slice io N icap, .slice ko K kcap]) := by
  obtain ⟨v0, v1, v2, v3, v4, hc, ht⟩ := hrow i hi
  obtain ⟨ik, inm, itx, iio, iN, iicap, iko, iK, ikcap, rfl, rfl, rfl, rfl, rfl⟩ := ht.shape
  exact ⟨ik, inm, itx, iio, iN, iicap, iko, iK, ikcap, hc, ht⟩
noncomputable def sm {α : Type} (x y : α) : Bool := @decide (x = y) (Classical.propDecidable _)
theorem sm_iff {α : Type} {x y : α} : sm x y = true ↔ x = y := by unfold sm; exact @decide_eq_true_iff (x = y) (Classical.propDecidable _)
theorem sm_yes {α : Type} (x : α) : sm x x = true := sm_iff.2 rfl
theorem sm_no {α : Type} {x y : α} (h : ¬ x = y) : sm x y = false := by
  cases e : sm x y with
  | false => rfl
  | true => exact absurd (sm_iff.1 e) h
theorem takeZ_up {α : Type} {xs ys : List α} {k : Nat} (h1 : k < xs.length) (h2 : k < ys.length) (h : xs.take k = ys.take k) (e : xs[k] = ys[k]) : xs.take (k + 1) = ys.take (k + 1) := by
  rw [List.take_succ_eq_append_getElem h1, List.take_succ_eq_append_getElem h2, h, e]
theorem takeZ_no {α : Type} {xs ys : List α} {k : Nat} (h1 : k < xs.length) (h2 : k < ys.length) (e : ¬ xs[k] = ys[k]) : ¬ xs = ys := by
  rintro rfl; exact e rfl
theorem beqZ_no {x y : ByteArray} (h : (x.toList == y.toList) = false) : ¬ x = y := by rintro rfl; simp at h
theorem beqZ_yes {x y : ByteArray} (h : (x.toList == y.toList) = true) : x = y := by
  rw [Lib.toList_data, Lib.toList_data] at h
  exact Pl.eq_of_toList (by simpa using h)

set_option maxRecDepth 100000 in
set_option maxHeartbeats 3200000 in
theorem w_SameStrings (ao : Option Addr) (M acap : Nat) (xs : List ByteArray) (bo : Option Addr) (N bcap : Nat) (ys : List ByteArray) (w : World) (ha : KIn w ao xs) (hb : KIn w bo ys) (hM : xs.length = M) (hN : ys.length = N) (hac : M ≤ acap) (hbc : N ≤ bcap) (hM2 : M ≤ 140737488355328) (hN2 : N ≤ 140737488355328) :
    Calls Tryz.prog 66 #[.slice ao M acap, .slice bo N bcap] w fun e w' => e = .returned (.bool (sm xs ys)) ∧ Below w.heap.size w w' := by
  have HA := Hid.mk ha
  have HB := Hid.mk hb
  have HM := Hid.mk hM
  have HN := Hid.mk hN
  clear ha hb hM hN
  obtain ⟨R, HR⟩ : ∃ R, Hid (sm xs ys = R) := ⟨_, rfl⟩
  rw [HR.out]
  by_cases hMN : M = N
  · subst hMN
    have y1 : ((M : Int) != (M : Int)) = false := by simp
    go_enter Tryz.func66, Tryz.ntmps66
    go_wp2_with fail
    go_loopw [5] (fun i wr => ∃ k : Nat, k ≤ M ∧ i = .int .i64 (k : Int) ∧ Hid (Below w.heap.size w wr) ∧ Hid (xs.take k = ys.take k)) (fun i _ => M - (intOf i).toNat)
    case atStart => exact ⟨0, Nat.zero_le _, rfl, Below.refl _ _, rfl⟩
    case round =>
      obtain ⟨k, hk, rfl, HBw, HQ⟩ := hrel
      by_cases hlt : k < M
      · have hl1 : (k : Int) < (M : Int) := by omega
        have hl0 : (0 : Int) ≤ (k : Int) := by omega
        have hkx : k < xs.length := by rw [HM.out]; exact hlt
        have hky : k < ys.length := by rw [HN.out]; exact hlt
        obtain ⟨b, off, hao, hbl, hrow⟩ := (HA.out.keep HBw.out).row (by omega)
        obtain ⟨b2, off2, hbo, hbl2, hrow2⟩ := (HB.out.keep HBw.out).row (by omega)
        subst hao
        subst hbo
        have c0 := hrow k hkx
        have d0 := hrow2 k hky
        rw [getD_key hkx] at c0
        rw [getD_key hky] at d0
        have HUp := Hid.mk (fun e => takeZ_up hkx hky HQ.out e)
        have HNo := Hid.mk (fun e => takeZ_no hkx hky e)
        generalize xs[k] = x at *
        generalize ys[k] = y at *
        have R0 := fun d os => cell_regrown c0 d os
        have S0 := fun d os => cell_regrown d0 d os
        clear hrow hrow2 hbl hbl2 hkx hky c0 d0
        cases hc : (x.toList == y.toList) with
        | true =>
          have HQ2 := Hid.mk (HUp.out (beqZ_yes hc))
          have hc2 : (x.toList != y.toList) = false := by simp only [bne]; rw [hc]; rfl
          clear HUp HNo
          go_wp2_with fail
          refine wp_region_quiet_below (by kernel_rfl) (by kernel_rfl) ?_
          repeat (go_big_quiet_step (fail))
          refine wpQuiet_nil ?_
          intro w2 hw'
          have HB2 : Hid (Below w.heap.size w w2) := by
            obtain ⟨⟨dq, osq⟩, rfl⟩ := hw'
            exact HBw.out.trans ((below_regrown wr dq osq).mono HBw.out.size)
          clear hw' R0 S0
          go_wp2_with fail
          go_roundw
          case rel => exact ⟨k + 1, by omega, by go_num, HB2, HQ2⟩
          case measure => simp [intOf]; omega
        | false =>
          have HT : Hid (R = false) := HR.out.symm.trans (sm_no (HNo.out (beqZ_no hc)))
          have hc2 : (x.toList != y.toList) = true := by simp only [bne]; rw [hc]; rfl
          clear HUp HNo
          go_wp2_with fail
          refine wp_region_quiet_below (by kernel_rfl) (by kernel_rfl) ?_
          repeat (go_big_quiet_step (fail))
          refine wpQuiet_nil ?_
          intro w2 hw'
          have HB2 : Hid (Below w.heap.size w w2) := by
            obtain ⟨⟨dq, osq⟩, rfl⟩ := hw'
            exact HBw.out.trans ((below_regrown wr dq osq).mono HBw.out.size)
          clear hw' R0 S0
          go_wp2_with fail
          go_ret
          exact ⟨by rw [HT.out]; rfl, HB2.out⟩
      · have hl1 : ¬ (k : Int) < (M : Int) := by omega
        have HT : Hid (R = true) := by
          have e := HQ.out
          rw [List.take_of_length_le (by rw [HM.out]; omega), List.take_of_length_le (by rw [HN.out]; omega)] at e
          exact HR.out.symm.trans (sm_iff.2 e)
        go_wp2_with fail
        go_ret
        exact ⟨by rw [HT.out]; rfl, HBw.out⟩
  · have HT : Hid (R = false) := HR.out.symm.trans (sm_no (fun e => hMN (by rw [← HM.out, ← HN.out, e])))
    have y1 : ((M : Int) != (N : Int)) = true := by simp; omega
    have y2 : ¬ (M : Int) = (N : Int) := by omega
    go_enter Tryz.func66, Tryz.ntmps66
    go_wp2_with fail
    go_ret
    exact ⟨by rw [HT.out]; rfl, Below.refl _ _⟩

def SvOk (h : Nat) : Prop := ∀ (A B : VT) (va vb : Value) (w : World), InH w h A va → InH w h B vb → Calls Tryz.prog 29 #[va, vb] w fun e w' => e = .returned (.bool (sm A B)) ∧ Below w.heap.size w w'

set_option maxRecDepth 100000 in
set_option maxHeartbeats 3200000 in
theorem same_values (h : Nat) (ih : SvOk h) (ao : Option Addr) (M acap : Nat) (xs : List VT) (bo : Option Addr) (N bcap : Nat) (ys : List VT) (w : World) (ha : IIn w h ao xs) (hb : IIn w h bo ys) (hM : xs.length = M) (hN : ys.length = N) (hac : M ≤ acap) (hbc : N ≤ bcap) (hM2 : M ≤ 140737488355328) (hN2 : N ≤ 140737488355328) :
    Calls Tryz.prog 12 #[.slice ao M acap, .slice bo N bcap] w fun e w' => e = .returned (.bool (sm xs ys)) ∧ Below w.heap.size w w' := by
  have HA := Hid.mk ha
  have HB := Hid.mk hb
  have HM := Hid.mk hM
  have HN := Hid.mk hN
  have HIh := Hid.mk ih
  clear ha hb hM hN ih
  obtain ⟨R, HR⟩ : ∃ R, Hid (sm xs ys = R) := ⟨_, rfl⟩
  rw [HR.out]
  by_cases hMN : M = N
  · subst hMN
    have y1 : ((M : Int) != (M : Int)) = false := by simp
    go_enter Tryz.func12, Tryz.ntmps12
    go_wp2_with fail
    go_loopw [5] (fun i wr => ∃ k : Nat, k ≤ M ∧ i = .int .i64 (k : Int) ∧ Hid (Below w.heap.size w wr) ∧ Hid (xs.take k = ys.take k)) (fun i _ => M - (intOf i).toNat)
    case atStart => exact ⟨0, Nat.zero_le _, rfl, Below.refl _ _, rfl⟩
    case round =>
      obtain ⟨k, hk, rfl, HBw, HQ⟩ := hrel
      by_cases hlt : k < M
      · have hl1 : (k : Int) < (M : Int) := by omega
        have hl0 : (0 : Int) ≤ (k : Int) := by omega
        have hkx : k < xs.length := by rw [HM.out]; exact hlt
        have hky : k < ys.length := by rw [HN.out]; exact hlt
        obtain ⟨b, off, hao, hbl, hrow⟩ := (HA.out.keep HBw.out).row (by omega)
        obtain ⟨b2, off2, hbo, hbl2, hrow2⟩ := (HB.out.keep HBw.out).row (by omega)
        subst hao
        subst hbo
        obtain ⟨ik, inm, itx, iio, iN, iicap, iko, iK, ikcap, ⟨c0, c1, c2, c3, c4⟩, ht⟩ := item_at hrow hkx
        obtain ⟨jk, jnm, jtx, jio, jN, jicap, jko, jK, jkcap, ⟨d0, d1, d2, d3, d4⟩, hu⟩ := item_at hrow2 hky
        have HC := Hid.mk (fun (d : Nat) (os : Array Obj) => HIh.out xs[k] ys[k] _ _ (grow (redrawn wr d) os) (ht.keep (below_regrown wr d os)) (hu.keep (below_regrown wr d os)))
        have HUp := Hid.mk (fun e => takeZ_up hkx hky HQ.out (sm_iff.1 e))
        have HNo := Hid.mk (fun (e : sm xs[k] ys[k] = false) => takeZ_no hkx hky (fun e' => by rw [e', sm_yes] at e; cases e))
        generalize sm xs[k] ys[k] = q at *
        have R0 := fun d os => cell_regrown c0 d os
        have R1 := fun d os => cell_regrown c1 d os
        have R2 := fun d os => cell_regrown c2 d os
        have R3 := fun d os => cell_regrown c3 d os
        have R4 := fun d os => cell_regrown c4 d os
        have S0 := fun d os => cell_regrown d0 d os
        have S1 := fun d os => cell_regrown d1 d os
        have S2 := fun d os => cell_regrown d2 d os
        have S3 := fun d os => cell_regrown d3 d os
        have S4 := fun d os => cell_regrown d4 d os
        clear hrow hrow2 hbl hbl2 hkx hky c0 c1 c2 c3 c4 d0 d1 d2 d3 d4 ht hu
        go_wp2_with fail
        refine wp_region_quiet_below (by kernel_rfl) (by kernel_rfl) ?_
        repeat (go_big_quiet_step (exact Calls.regrown_of (HC.out _ _)))
        refine wpQuiet_nil ?_
        intro w2 hw'
        have HB2 : Hid (Below w.heap.size w w2) := by
          obtain ⟨⟨dq, osq⟩, rfl⟩ := hw'
          exact HBw.out.trans ((below_regrown wr dq osq).mono HBw.out.size)
        clear hw' R0 R1 R2 R3 R4 S0 S1 S2 S3 S4 HC
        cases q with
        | true =>
          have HQ2 := Hid.mk (HUp.out rfl)
          clear HUp HNo
          go_wp2_with fail
          go_roundw
          case rel => exact ⟨k + 1, by omega, by go_num, HB2, HQ2⟩
          case measure => simp [intOf]; omega
        | false =>
          have HT : Hid (R = false) := HR.out.symm.trans (sm_no (HNo.out rfl))
          clear HUp HNo
          go_wp2_with fail
          go_ret
          exact ⟨by rw [HT.out]; rfl, HB2.out⟩
      · have hl1 : ¬ (k : Int) < (M : Int) := by omega
        have HT : Hid (R = true) := by
          have e := HQ.out
          rw [List.take_of_length_le (by rw [HM.out]; omega), List.take_of_length_le (by rw [HN.out]; omega)] at e
          exact HR.out.symm.trans (sm_iff.2 e)
        go_wp2_with fail
        go_ret
        exact ⟨by rw [HT.out]; rfl, HBw.out⟩
  · have HT : Hid (R = false) := HR.out.symm.trans (sm_no (fun e => hMN (by rw [← HM.out, ← HN.out, e])))
    have y1 : ((M : Int) != (N : Int)) = true := by simp; omega
    have y2 : ¬ (M : Int) = (N : Int) := by omega
    go_enter Tryz.func12, Tryz.ntmps12
    go_wp2_with fail
    go_ret
    exact ⟨by rw [HT.out]; rfl, Below.refl _ _⟩
end Go.Proofs.YtfjmgccbpiolhaaGreatDoor
namespace Go.Proofs.YtfjmgccbpiolhaaGreatDoor
open Go.RowKit Go.Shelf Go.Sort
set_option linter.unusedVariables false
set_option linter.unusedSimpArgs false

set_option maxRecDepth 100000 in
set_option maxHeartbeats 3200000 in
theorem sv_kind (w : World) (ka kb : Int) (an at_ : ByteArray) (aio : Option Addr) (aN aic : Nat) (ako : Option Addr) (aK akc : Nat) (bn bt : ByteArray) (bio : Option Addr) (bN bic : Nat) (bko : Option Addr) (bK bkc : Nat) (hk : ¬ ka = kb) :
    Calls Tryz.prog 29 #[.agg #[.int .i64 ka, .string an, .string at_, .slice aio aN aic, .slice ako aK akc], .agg #[.int .i64 kb, .string bn, .string bt, .slice bio bN bic, .slice bko bK bkc]] w fun e w' => e = .returned (.bool false) ∧ Below w.heap.size w w' := by
  obtain ⟨w1, hw1⟩ : ∃ w1, (w.alloc (.cells #[.int .i64 ka, .string an, .string at_, .slice aio aN aic, .slice ako aK akc] 49)).alloc (.cells #[.int .i64 kb, .string bn, .string bt, .slice bio bN bic, .slice bko bK bkc] 49) = w1 := ⟨_, rfl⟩
  have HBx : Hid (Below w.heap.size w w1) := by subst hw1; exact below2 _ _ _
  have HX : Hid (RB2 w w1 (.int .i64 ka) (.string an) (.string at_) (.slice aio aN aic) (.slice ako aK akc) (.int .i64 kb) (.string bn) (.string bt) (.slice bio bN bic) (.slice bko bK bkc)) := by subst hw1; exact rb2_new _ _ _ _ _ _ _ _ _ _ _
  have x0 := HX.out.one.c0
  have x1 := HX.out.one.c1
  have x2 := HX.out.one.c2
  have x3 := HX.out.one.c3
  have x4 := HX.out.one.c4
  have y0 := HX.out.d0
  have y1 := HX.out.d1
  have y2 := HX.out.d2
  have y3 := HX.out.d3
  have y4 := HX.out.d4
  have g1 : (ka != kb) = true := by simpa using hk
  go_enter Tryz.func29, Tryz.ntmps29
  go_wp2_with fail
  try simp only [hw1]
  clear hw1
  go_ret
  exact ⟨rfl, HBx.out⟩

set_option maxRecDepth 100000 in
set_option maxHeartbeats 3200000 in
theorem sv_num (w : World) (ka kb : Int) (an at_ : ByteArray) (aio : Option Addr) (aN aic : Nat) (ako : Option Addr) (aK akc : Nat) (bn bt : ByteArray) (bio : Option Addr) (bN bic : Nat) (bko : Option Addr) (bK bkc : Nat) (hk : ka = kb) (hn : (an.toList == bn.toList) = false) :
    Calls Tryz.prog 29 #[.agg #[.int .i64 ka, .string an, .string at_, .slice aio aN aic, .slice ako aK akc], .agg #[.int .i64 kb, .string bn, .string bt, .slice bio bN bic, .slice bko bK bkc]] w fun e w' => e = .returned (.bool false) ∧ Below w.heap.size w w' := by
  subst hk
  obtain ⟨w1, hw1⟩ : ∃ w1, (w.alloc (.cells #[.int .i64 ka, .string an, .string at_, .slice aio aN aic, .slice ako aK akc] 49)).alloc (.cells #[.int .i64 ka, .string bn, .string bt, .slice bio bN bic, .slice bko bK bkc] 49) = w1 := ⟨_, rfl⟩
  have HBx : Hid (Below w.heap.size w w1) := by subst hw1; exact below2 _ _ _
  have HX : Hid (RB2 w w1 (.int .i64 ka) (.string an) (.string at_) (.slice aio aN aic) (.slice ako aK akc) (.int .i64 ka) (.string bn) (.string bt) (.slice bio bN bic) (.slice bko bK bkc)) := by subst hw1; exact rb2_new _ _ _ _ _ _ _ _ _ _ _
  have x0 := HX.out.one.c0
  have x1 := HX.out.one.c1
  have x2 := HX.out.one.c2
  have x3 := HX.out.one.c3
  have x4 := HX.out.one.c4
  have y0 := HX.out.d0
  have y1 := HX.out.d1
  have y2 := HX.out.d2
  have y3 := HX.out.d3
  have y4 := HX.out.d4
  have g1 : (ka != ka) = false := by simp
  have g2 : (an.toList != bn.toList) = true := by simp only [bne]; rw [hn]; rfl
  go_enter Tryz.func29, Tryz.ntmps29
  go_wp2_with fail
  try simp only [hw1]
  clear hw1
  go_ret
  exact ⟨rfl, HBx.out⟩

set_option maxRecDepth 100000 in
set_option maxHeartbeats 3200000 in
theorem sv_text (w : World) (ka kb : Int) (an at_ : ByteArray) (aio : Option Addr) (aN aic : Nat) (ako : Option Addr) (aK akc : Nat) (bn bt : ByteArray) (bio : Option Addr) (bN bic : Nat) (bko : Option Addr) (bK bkc : Nat) (hk : ka = kb) (hn : (an.toList == bn.toList) = true) (hx : (at_.toList == bt.toList) = false) :
    Calls Tryz.prog 29 #[.agg #[.int .i64 ka, .string an, .string at_, .slice aio aN aic, .slice ako aK akc], .agg #[.int .i64 kb, .string bn, .string bt, .slice bio bN bic, .slice bko bK bkc]] w fun e w' => e = .returned (.bool false) ∧ Below w.heap.size w w' := by
  subst hk
  obtain ⟨w1, hw1⟩ : ∃ w1, (w.alloc (.cells #[.int .i64 ka, .string an, .string at_, .slice aio aN aic, .slice ako aK akc] 49)).alloc (.cells #[.int .i64 ka, .string bn, .string bt, .slice bio bN bic, .slice bko bK bkc] 49) = w1 := ⟨_, rfl⟩
  have HBx : Hid (Below w.heap.size w w1) := by subst hw1; exact below2 _ _ _
  have HX : Hid (RB2 w w1 (.int .i64 ka) (.string an) (.string at_) (.slice aio aN aic) (.slice ako aK akc) (.int .i64 ka) (.string bn) (.string bt) (.slice bio bN bic) (.slice bko bK bkc)) := by subst hw1; exact rb2_new _ _ _ _ _ _ _ _ _ _ _
  have x0 := HX.out.one.c0
  have x1 := HX.out.one.c1
  have x2 := HX.out.one.c2
  have x3 := HX.out.one.c3
  have x4 := HX.out.one.c4
  have y0 := HX.out.d0
  have y1 := HX.out.d1
  have y2 := HX.out.d2
  have y3 := HX.out.d3
  have y4 := HX.out.d4
  have g1 : (ka != ka) = false := by simp
  have g2 : (an.toList != bn.toList) = false := by simp only [bne]; rw [hn]; rfl
  have g3 : (at_.toList != bt.toList) = true := by simp only [bne]; rw [hx]; rfl
  go_enter Tryz.func29, Tryz.ntmps29
  go_wp2_with fail
  try simp only [hw1]
  clear hw1
  go_ret
  exact ⟨rfl, HBx.out⟩

set_option maxRecDepth 100000 in
set_option maxHeartbeats 3200000 in
theorem sv_rest (w : World) (ka kb : Int) (an at_ : ByteArray) (aio : Option Addr) (aN aic : Nat) (ako : Option Addr) (aK akc : Nat) (bn bt : ByteArray) (bio : Option Addr) (bN bic : Nat) (bko : Option Addr) (bK bkc : Nat) (hk : ka = kb) (hn : (an.toList == bn.toList) = true) (hx : (at_.toList == bt.toList) = true) (p q : Bool)
    (HV : Hid (∀ u, Below w.heap.size w u → Calls Tryz.prog 12 #[.slice aio aN aic, .slice bio bN bic] u fun e w' => e = .returned (.bool p) ∧ Below u.heap.size u w'))
    (HS : Hid (∀ u, Below w.heap.size w u → Calls Tryz.prog 66 #[.slice ako aK akc, .slice bko bK bkc] u fun e w' => e = .returned (.bool q) ∧ Below u.heap.size u w')) :
    Calls Tryz.prog 29 #[.agg #[.int .i64 ka, .string an, .string at_, .slice aio aN aic, .slice ako aK akc], .agg #[.int .i64 kb, .string bn, .string bt, .slice bio bN bic, .slice bko bK bkc]] w fun e w' => e = .returned (.bool (p && q)) ∧ Below w.heap.size w w' := by
  subst hk
  obtain ⟨w1, hw1⟩ : ∃ w1, (w.alloc (.cells #[.int .i64 ka, .string an, .string at_, .slice aio aN aic, .slice ako aK akc] 49)).alloc (.cells #[.int .i64 ka, .string bn, .string bt, .slice bio bN bic, .slice bko bK bkc] 49) = w1 := ⟨_, rfl⟩
  have HBx : Hid (Below w.heap.size w w1) := by subst hw1; exact below2 _ _ _
  have HX : Hid (RB2 w w1 (.int .i64 ka) (.string an) (.string at_) (.slice aio aN aic) (.slice ako aK akc) (.int .i64 ka) (.string bn) (.string bt) (.slice bio bN bic) (.slice bko bK bkc)) := by subst hw1; exact rb2_new _ _ _ _ _ _ _ _ _ _ _
  have x0 := HX.out.one.c0
  have x1 := HX.out.one.c1
  have x2 := HX.out.one.c2
  have x3 := HX.out.one.c3
  have x4 := HX.out.one.c4
  have y0 := HX.out.d0
  have y1 := HX.out.d1
  have y2 := HX.out.d2
  have y3 := HX.out.d3
  have y4 := HX.out.d4
  have g1 : (ka != ka) = false := by simp
  have g2 : (an.toList != bn.toList) = false := by simp only [bne]; rw [hn]; rfl
  have g3 : (at_.toList != bt.toList) = false := by simp only [bne]; rw [hx]; rfl
  go_enter Tryz.func29, Tryz.ntmps29
  go_wp2_with fail
  try simp only [hw1]
  clear hw1
  refine (HV.out w1 HBx.out).mono ?_
  rintro e w2 ⟨rfl, hb2⟩
  have HX2 := Hid.mk (HX.out.keep hb2)
  have HB2 := Hid.mk (HBx.out.trans (hb2.mono HBx.out.size))
  clear hb2 x0 x1 x2 x3 x4 y0 y1 y2 y3 y4
  have x0 := HX2.out.one.c0
  have x1 := HX2.out.one.c1
  have x2 := HX2.out.one.c2
  have x3 := HX2.out.one.c3
  have x4 := HX2.out.one.c4
  have y0 := HX2.out.d0
  have y1 := HX2.out.d1
  have y2 := HX2.out.d2
  have y3 := HX2.out.d3
  have y4 := HX2.out.d4
  cases p with
  | false =>
    go_wp2_with fail
    go_ret
    exact ⟨rfl, HB2.out⟩
  | true =>
    go_wp2_with fail
    refine (HS.out w2 HB2.out).mono ?_
    rintro e w3 ⟨rfl, hb3⟩
    have HB3 := Hid.mk (HB2.out.trans (hb3.mono HB2.out.size))
    clear hb3
    cases q with
    | false =>
      go_wp2_with fail
      go_ret
      exact ⟨rfl, HB3.out⟩
    | true =>
      go_wp2_with fail
      go_ret
      exact ⟨rfl, HB3.out⟩

theorem VT.extZ {A B : VT} (h1 : A.kind = B.kind) (h2 : A.num = B.num) (h3 : A.text = B.text) (h4 : A.items = B.items) (h5 : A.keys = B.keys) : A = B := by
  cases A; cases B
  simp only [VT.kind, VT.num, VT.text, VT.items, VT.keys] at h1 h2 h3 h4 h5
  subst h1; subst h2; subst h3; subst h4; subst h5; rfl

theorem w_SameValue : ∀ h, SvOk h
  | 0 => fun A B va vb w hA _ => hA.elim
  | h + 1 => by
    intro A B va vb w hA hB
    obtain ⟨aio, aic, ako, akc, ea, _, _, a3, a4, a5, a6, _, ak, ai⟩ := hA
    obtain ⟨bio, bic, bko, bkc, eb, _, _, b3, b4, b5, b6, _, bk, bi⟩ := hB
    subst ea
    subst eb
    have iA : IIn w h aio A.items := ⟨ai⟩
    have iB : IIn w h bio B.items := ⟨bi⟩
    by_cases hk : A.kind = B.kind
    · cases hn : (A.num.toList == B.num.toList) with
      | false =>
        rw [sm_no (fun e => beqZ_no hn (by rw [e]))]
        exact sv_num w _ _ _ _ _ _ _ _ _ _ _ _ _ _ _ _ _ _ hk hn
      | true =>
        cases hx : (A.text.toList == B.text.toList) with
        | false =>
          rw [sm_no (fun e => beqZ_no hx (by rw [e]))]
          exact sv_text w _ _ _ _ _ _ _ _ _ _ _ _ _ _ _ _ _ _ hk hn hx
        | true =>
          have e : sm A B = (sm A.items B.items && sm A.keys B.keys) := by
            cases hp : sm A.items B.items with
            | false => rw [Bool.false_and]; exact sm_no (fun e => by rw [e, sm_yes] at hp; cases hp)
            | true =>
              rw [Bool.true_and]
              cases hq : sm A.keys B.keys with
              | false => exact sm_no (fun e => by rw [e, sm_yes] at hq; cases hq)
              | true => exact sm_iff.2 (VT.extZ hk (beqZ_yes hn) (beqZ_yes hx) (sm_iff.1 hp) (sm_iff.1 hq))
          rw [e]
          exact sv_rest w _ _ _ _ _ _ _ _ _ _ _ _ _ _ _ _ _ _ hk hn hx _ _ (Hid.mk fun u hb => same_values h (w_SameValue h) _ _ _ _ _ _ _ _ u (iA.keep hb) (iB.keep hb) rfl rfl a5 b5 a3 b3) (Hid.mk fun u hb => w_SameStrings _ _ _ _ _ _ _ _ u (ak.keep hb) (bk.keep hb) rfl rfl a6 b6 a4 b4)
    · rw [sm_no (fun e => hk (by rw [e]))]
      exact sv_kind w _ _ _ _ _ _ _ _ _ _ _ _ _ _ _ _ _ _ hk

theorem w_SameValues (h : Nat) (ao : Option Addr) (M acap : Nat) (xs : List VT) (bo : Option Addr) (N bcap : Nat) (ys : List VT) (w : World) (ha : IIn w h ao xs) (hb : IIn w h bo ys) (hM : xs.length = M) (hN : ys.length = N) (hac : M ≤ acap) (hbc : N ≤ bcap) (hM2 : M ≤ 140737488355328) (hN2 : N ≤ 140737488355328) :
    Calls Tryz.prog 12 #[.slice ao M acap, .slice bo N bcap] w fun e w' => e = .returned (.bool (sm xs ys)) ∧ Below w.heap.size w w' := same_values h (w_SameValue h) ao M acap xs bo N bcap ys w ha hb hM hN hac hbc hM2 hN2
end Go.Proofs.YtfjmgccbpiolhaaGreatDoor
