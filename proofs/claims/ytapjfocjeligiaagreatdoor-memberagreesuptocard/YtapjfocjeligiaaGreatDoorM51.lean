import Derived.Test.YtapjfocjeligiaaGreatDoorM46
namespace Go.Proofs.YtapjfocjeligiaaGreatDoor
open Go.RowKit Go.Shelf Go.Sort
set_option linter.unusedVariables false
set_option linter.unusedSimpArgs false
attribute [local go_sem] Oper.semAt_some

theorem item_at {w : World} {h : Nat} {b off : Nat} {ts : List VT} (hrow : ∀ i, (hi : i < ts.length) → ∃ v0 v1 v2 v3 v4 : Value,
        (w.cell? ⟨b, off + i * 5, none⟩ = some v0 ∧ w.cell? ⟨b, off + i * 5 + 1, none⟩ = some v1 ∧ w.cell? ⟨b, off + i * 5 + 2, none⟩ = some v2 ∧ w.cell? ⟨b, off + i * 5 + 3, none⟩ = some v3 ∧ w.cell? ⟨b, off + i * 5 + 4, none⟩ = some v4) ∧ InH w h ts[i] (.agg #[v0, v1, v2, v3, v4])) {i : Nat} (hi : i < ts.length) :
    ∃ (k : Int) (n t : ByteArray) (io : Option Addr) (N icap : Nat) (ko : Option Addr) (K kcap : Nat), (w.cell? ⟨b, off + i * 5, none⟩ = some (.int .i64 k) ∧ w.cell? ⟨b, off + i * 5 + 1, none⟩ = some (.string n) ∧ w.cell? ⟨b, off + i * 5 + 2, none⟩ = some (.string t) ∧ w.cell? ⟨b, off + i * 5 + 3, none⟩ = some (.slice io N icap) ∧ w.cell? ⟨b, off + i * 5 + 4, none⟩ = some (.slice ko K kcap)) ∧ InH w h ts[i] (.agg #[.int .i64 k, .string n, .string t, .slice io N icap, .slice ko K kcap]) := by
  obtain ⟨v0, v1, v2, v3, v4, hc, ht⟩ := hrow i hi
  obtain ⟨ik, inm, itx, iio, iN, iicap, iko, iK, ikcap, rfl, rfl, rfl, rfl, rfl⟩ := ht.shape
  exact ⟨ik, inm, itx, iio, iN, iicap, iko, iK, ikcap, hc, ht⟩
/-- two are one -/
noncomputable def sm {α : Type} (x y : α) : Bool := @decide (x = y) (Classical.propDecidable _)
theorem sm_iff {α : Type} {x y : α} : sm x y = true ↔ x = y := by unfold sm; exact @decide_eq_true_iff (x = y) (Classical.propDecidable _)
theorem sm_yes {α : Type} (x : α) : sm x x = true := sm_iff.2 rfl
theorem sm_no {α : Type} {x y : α} (h : ¬ x = y) : sm x y = false := by
  cases e : sm x y with
  | false => rfl
  | true => exact absurd (sm_iff.1 e) h
theorem takeZ_up {α : Type} {xs ys : List α} {k : Nat} (h1 : k < xs.length) (h2 : k < ys.length) (h : xs.take k = ys.take k) (e : xs[k] = ys[k]) : xs.take (k + 1) = ys.take (k + 1) := by
  rw [List.take_succ_eq_append_getElem h1, List.take_succ_eq_append_getElem h2, h, e]
theorem takeZ_no {α : Type} {xs ys : List α} {k : Nat} (h1 : k < xs.length) (h2 : k < ys.length) (e : ¬ xs[k] = ys[k]) : ¬ xs = ys := by
  rintro rfl; exact e rfl
theorem beqZ_no {x y : ByteArray} (h : (x.toList == y.toList) = false) : ¬ x = y := by rintro rfl; simp at h
theorem beqZ_yes {x y : ByteArray} (h : (x.toList == y.toList) = true) : x = y := by
  rw [Lib.toList_data, Lib.toList_data] at h
  exact Pl.eq_of_toList (by simpa using h)

set_option maxRecDepth 100000 in
set_option maxHeartbeats 3200000 in
theorem w_SameStrings (ao : Option Addr) (M acap : Nat) (xs : List ByteArray) (bo : Option Addr) (N bcap : Nat) (ys : List ByteArray) (w : World) (ha : KIn w ao xs) (hb : KIn w bo ys) (hM : xs.length = M) (hN : ys.length = N) (hac : M ≤ acap) (hbc : N ≤ bcap) (hM2 : M ≤ 140737488355328) (hN2 : N ≤ 140737488355328) :
    Calls Tryz.prog 65 #[.slice ao M acap, .slice bo N bcap] w fun e w' => e = .returned (.bool (sm xs ys)) ∧ Below w.heap.size w w' := by
  have HA := Hid.mk ha
  have HB := Hid.mk hb
  have HM := Hid.mk hM
  have HN := Hid.mk hN
  clear ha hb hM hN
  obtain ⟨R, HR⟩ : ∃ R, Hid (sm xs ys = R) := ⟨_, rfl⟩
  rw [HR.out]
  by_cases hMN : M = N
  · subst hMN
    have y1 : ((M : Int) != (M : Int)) = false := by simp
    go_enter Tryz.func65, Tryz.ntmps65
    go_wp2_with fail
    go_loopw [5] (fun i wr => ∃ k : Nat, k ≤ M ∧ i = .int .i64 (k : Int) ∧ Hid (Below w.heap.size w wr) ∧ Hid (xs.take k = ys.take k)) (fun i _ => M - (intOf i).toNat)
    case atStart => exact ⟨0, Nat.zero_le _, rfl, Below.refl _ _, rfl⟩
    case round =>
      obtain ⟨k, hk, rfl, HBw, HQ⟩ := hrel
      by_cases hlt : k < M
      · have hl1 : (k : Int) < (M : Int) := by omega
        have hl0 : (0 : Int) ≤ (k : Int) := by omega
        have hkx : k < xs.length := by rw [HM.out]; exact hlt
        have hky : k < ys.length := by rw [HN.out]; exact hlt
        obtain ⟨b, off, hao, hbl, hrow⟩ := (HA.out.keep HBw.out).row (by omega)
        obtain ⟨b2, off2, hbo, hbl2, hrow2⟩ := (HB.out.keep HBw.out).row (by omega)
        subst hao
        subst hbo
        have c0 := hrow k hkx
        have d0 := hrow2 k hky
        rw [getD_key hkx] at c0
        rw [getD_key hky] at d0
        have HUp := Hid.mk (fun e => takeZ_up hkx hky HQ.out e)
        have HNo := Hid.mk (fun e => takeZ_no hkx hky e)
        generalize xs[k] = x at *
        generalize ys[k] = y at *
        have R0 := fun d os => cell_regrown c0 d os
        have S0 := fun d os => cell_regrown d0 d os
        clear hrow hrow2 hbl hbl2 hkx hky c0 d0
        cases hc : (x.toList == y.toList) with
        | true =>
          have HQ2 := Hid.mk (HUp.out (beqZ_yes hc))
          have hc2 : (x.toList != y.toList) = false := by simp only [bne]; rw [hc]; rfl
          clear HUp HNo
          go_wp2_with fail
          refine wp_region_quiet_below (by kernel_rfl) (by kernel_rfl) ?_
          repeat (go_big_quiet_step (fail))
          refine wpQuiet_nil ?_
          intro w2 hw'
          have HB2 : Hid (Below w.heap.size w w2) := by
            obtain ⟨⟨dq, osq⟩, rfl⟩ := hw'
            exact HBw.out.trans ((below_regrown wr dq osq).mono HBw.out.size)
          clear hw' R0 S0
          go_wp2_with fail
          go_roundw
          case rel => exact ⟨k + 1, by omega, by go_num, HB2, HQ2⟩
          case measure => simp [intOf]; omega
        | false =>
          have HT : Hid (R = false) := HR.out.symm.trans (sm_no (HNo.out (beqZ_no hc)))
          have hc2 : (x.toList != y.toList) = true := by simp only [bne]; rw [hc]; rfl
          clear HUp HNo
          go_wp2_with fail
          refine wp_region_quiet_below (by kernel_rfl) (by kernel_rfl) ?_
          repeat (go_big_quiet_step (fail))
          refine wpQuiet_nil ?_
          intro w2 hw'
          have HB2 : Hid (Below w.heap.size w w2) := by
            obtain ⟨⟨dq, osq⟩, rfl⟩ := hw'
            exact HBw.out.trans ((below_regrown wr dq osq).mono HBw.out.size)
          clear hw' R0 S0
          go_wp2_with fail
          go_ret
          exact ⟨by rw [HT.out]; rfl, HB2.out⟩
      · have hl1 : ¬ (k : Int) < (M : Int) := by omega
        have HT : Hid (R = true) := by
          have e := HQ.out
          rw [List.take_of_length_le (by rw [HM.out]; omega), List.take_of_length_le (by rw [HN.out]; omega)] at e
          exact HR.out.symm.trans (sm_iff.2 e)
        go_wp2_with fail
        go_ret
        exact ⟨by rw [HT.out]; rfl, HBw.out⟩
  · have HT : Hid (R = false) := HR.out.symm.trans (sm_no (fun e => hMN (by rw [← HM.out, ← HN.out, e])))
    have y1 : ((M : Int) != (N : Int)) = true := by simp; omega
    have y2 : ¬ (M : Int) = (N : Int) := by omega
    go_enter Tryz.func65, Tryz.ntmps65
    go_wp2_with fail
    go_ret
    exact ⟨by rw [HT.out]; rfl, Below.refl _ _⟩

/-- hallmarkkit.SameValue, at a height -/
def SvOk (h : Nat) : Prop := ∀ (A B : VT) (va vb : Value) (w : World), InH w h A va → InH w h B vb → Calls Tryz.prog 41 #[va, vb] w fun e w' => e = .returned (.bool (sm A B)) ∧ Below w.heap.size w w'

set_option maxRecDepth 100000 in
set_option maxHeartbeats 3200000 in
theorem same_values (h : Nat) (ih : SvOk h) (ao : Option Addr) (M acap : Nat) (xs : List VT) (bo : Option Addr) (N bcap : Nat) (ys : List VT) (w : World) (ha : IIn w h ao xs) (hb : IIn w h bo ys) (hM : xs.length = M) (hN : ys.length = N) (hac : M ≤ acap) (hbc : N ≤ bcap) (hM2 : M ≤ 140737488355328) (hN2 : N ≤ 140737488355328) :
    Calls Tryz.prog 21 #[.slice ao M acap, .slice bo N bcap] w fun e w' => e = .returned (.bool (sm xs ys)) ∧ Below w.heap.size w w' := by
  have HA := Hid.mk ha
  have HB := Hid.mk hb
  have HM := Hid.mk hM
  have HN := Hid.mk hN
  have HIh := Hid.mk ih
  clear ha hb hM hN ih
  obtain ⟨R, HR⟩ : ∃ R, Hid (sm xs ys = R) := ⟨_, rfl⟩
  rw [HR.out]
  by_cases hMN : M = N
  · subst hMN
    have y1 : ((M : Int) != (M : Int)) = false := by simp
    go_enter Tryz.func21, Tryz.ntmps21
    go_wp2_with fail
    go_loopw [5] (fun i wr => ∃ k : Nat, k ≤ M ∧ i = .int .i64 (k : Int) ∧ Hid (Below w.heap.size w wr) ∧ Hid (xs.take k = ys.take k)) (fun i _ => M - (intOf i).toNat)
    case atStart => exact ⟨0, Nat.zero_le _, rfl, Below.refl _ _, rfl⟩
    case round =>
      obtain ⟨k, hk, rfl, HBw, HQ⟩ := hrel
      by_cases hlt : k < M
      · have hl1 : (k : Int) < (M : Int) := by omega
        have hl0 : (0 : Int) ≤ (k : Int) := by omega
        have hkx : k < xs.length := by rw [HM.out]; exact hlt
        have hky : k < ys.length := by rw [HN.out]; exact hlt
        obtain ⟨b, off, hao, hbl, hrow⟩ := (HA.out.keep HBw.out).row (by omega)
        obtain ⟨b2, off2, hbo, hbl2, hrow2⟩ := (HB.out.keep HBw.out).row (by omega)
        subst hao
        subst hbo
        obtain ⟨ik, inm, itx, iio, iN, iicap, iko, iK, ikcap, ⟨c0, c1, c2, c3, c4⟩, ht⟩ := item_at hrow hkx
        obtain ⟨jk, jnm, jtx, jio, jN, jicap, jko, jK, jkcap, ⟨d0, d1, d2, d3, d4⟩, hu⟩ := item_at hrow2 hky
        have HC := Hid.mk (fun (d : Nat) (os : Array Obj) => HIh.out xs[k] ys[k] _ _ (grow (redrawn wr d) os) (ht.keep (below_regrown wr d os)) (hu.keep (below_regrown wr d os)))
        have HUp := Hid.mk (fun e => takeZ_up hkx hky HQ.out (sm_iff.1 e))
        have HNo := Hid.mk (fun (e : sm xs[k] ys[k] = false) => takeZ_no hkx hky (fun e' => by rw [e', sm_yes] at e; cases e))
        generalize sm xs[k] ys[k] = q at *
        have R0 := fun d os => cell_regrown c0 d os
        have R1 := fun d os => cell_regrown c1 d os
        have R2 := fun d os => cell_regrown c2 d os
        have R3 := fun d os => cell_regrown c3 d os
        have R4 := fun d os => cell_regrown c4 d os
        have S0 := fun d os => cell_regrown d0 d os
        have S1 := fun d os => cell_regrown d1 d os
        have S2 := fun d os => cell_regrown d2 d os
        have S3 := fun d os => cell_regrown d3 d os
        have S4 := fun d os => cell_regrown d4 d os
        clear hrow hrow2 hbl hbl2 hkx hky c0 c1 c2 c3 c4 d0 d1 d2 d3 d4 ht hu
        go_wp2_with fail
        refine wp_region_quiet_below (by kernel_rfl) (by kernel_rfl) ?_
        repeat (go_big_quiet_step (exact Calls.regrown_of (HC.out _ _)))
        refine wpQuiet_nil ?_
        intro w2 hw'
        have HB2 : Hid (Below w.heap.size w w2) := by
          obtain ⟨⟨dq, osq⟩, rfl⟩ := hw'
          exact HBw.out.trans ((below_regrown wr dq osq).mono HBw.out.size)
        clear hw' R0 R1 R2 R3 R4 S0 S1 S2 S3 S4 HC
        cases q with
        | true =>
          have HQ2 := Hid.mk (HUp.out rfl)
          clear HUp HNo
          go_wp2_with fail
          go_roundw
          case rel => exact ⟨k + 1, by omega, by go_num, HB2, HQ2⟩
          case measure => simp [intOf]; omega
        | false =>
          have HT : Hid (R = false) := HR.out.symm.trans (sm_no (HNo.out rfl))
          clear HUp HNo
          go_wp2_with fail
          go_ret
          exact ⟨by rw [HT.out]; rfl, HB2.out⟩
      · have hl1 : ¬ (k : Int) < (M : Int) := by omega
        have HT : Hid (R = true) := by
          have e := HQ.out
          rw [List.take_of_length_le (by rw [HM.out]; omega), List.take_of_length_le (by rw [HN.out]; omega)] at e
          exact HR.out.symm.trans (sm_iff.2 e)
        go_wp2_with fail
        go_ret
        exact ⟨by rw [HT.out]; rfl, HBw.out⟩
  · have HT : Hid (R = false) := HR.out.symm.trans (sm_no (fun e => hMN (by rw [← HM.out, ← HN.out, e])))
    have y1 : ((M : Int) != (N : Int)) = true := by simp; omega
    have y2 : ¬ (M : Int) = (N : Int) := by omega
    go_enter Tryz.func21, Tryz.ntmps21
    go_wp2_with fail
    go_ret
    exact ⟨by rw [HT.out]; rfl, Below.refl _ _⟩
end Go.Proofs.YtapjfocjeligiaaGreatDoor
