import Derived.Test.YtdmkfdaddacdhaaGreatDoorZSXs
import Derived.Lib.QuietBelow
import Derived.BigQuiet
import Derived.WalkMore
namespace Go.Proofs.YtdmkfdaddacdhaaGreatDoor
open Go.RowKit Go.Shelf Go.Sort
set_option linter.unusedVariables false
set_option linter.unusedSimpArgs false
attribute [local go_sem] Oper.semAt_some

theorem takeQ_up {α : Type} {xs ys : List α} {k : Nat} (h1 : k < xs.length) (h2 : k < ys.length) (h : xs.take k = ys.take k) (e : xs[k] = ys[k]) : xs.take (k + 1) = ys.take (k + 1) := by
  rw [List.take_succ_eq_append_getElem h1, List.take_succ_eq_append_getElem h2, h, e]
theorem takeQ_no {α : Type} {xs ys : List α} {k : Nat} (h1 : k < xs.length) (h2 : k < ys.length) (e : ¬ xs[k] = ys[k]) : ¬ xs = ys := by
  rintro rfl; exact e rfl
theorem beqQ_no {x y : ByteArray} (h : (x.toList == y.toList) = false) : ¬ x = y := by rintro rfl; simp at h
theorem beqQ_yes {x y : ByteArray} (h : (x.toList == y.toList) = true) : x = y := by
  rw [Lib.toList_data, Lib.toList_data] at h
  exact ByteArray.ext (Array.toList_inj.1 (by simpa using h))
theorem getD_keyQ {l : List ByteArray} {i : Nat} (h : i < l.length) : l.getD i .empty = l[i] := by rw [List.getD_eq_getElem?_getD, List.getElem?_eq_getElem h]; rfl

set_option maxRecDepth 100000 in
set_option maxHeartbeats 3200000 in
theorem w_EqualS (ao : Option Addr) (M acap : Nat) (xs : List ByteArray) (bo : Option Addr) (N bcap : Nat) (ys : List ByteArray) (w : World) (ha : KIn w ao xs) (hb : KIn w bo ys) (hM : xs.length = M) (hN : ys.length = N) (hac : M ≤ acap) (hbc : N ≤ bcap) (hM2 : M ≤ 140737488355328) (hN2 : N ≤ 140737488355328) :
    Calls Tryz.prog 64 #[.slice ao M acap, .slice bo N bcap] w fun e w' => e = .returned (.bool (sq xs ys)) ∧ Below w.heap.size w w' := by
  have HA := Hid.mk ha
  have HB := Hid.mk hb
  have HM := Hid.mk hM
  have HN := Hid.mk hN
  clear ha hb hM hN
  obtain ⟨R, HR⟩ : ∃ R, Hid (sq xs ys = R) := ⟨_, rfl⟩
  rw [HR.out]
  by_cases hMN : M = N
  · subst hMN
    have y1 : ((M : Int) != (M : Int)) = false := by simp
    go_enter Tryz.func64, Tryz.ntmps64
    go_wp2_with fail
    go_loopw [13] (fun i wr => ∃ k : Nat, k ≤ M ∧ i = .int .i64 (k : Int) ∧ Hid (Below w.heap.size w wr) ∧ Hid (xs.take k = ys.take k)) (fun i _ => M - (intOf i).toNat)
    case atStart => exact ⟨0, Nat.zero_le _, rfl, Below.refl _ _, rfl⟩
    case round =>
      obtain ⟨k, hk, rfl, HBw, HQ⟩ := hrel
      by_cases hlt : k < M
      · have hl1 : (k : Int) < (M : Int) := by omega
        have hl0 : (0 : Int) ≤ (k : Int) := by omega
        have hkx : k < xs.length := by rw [HM.out]; exact hlt
        have hky : k < ys.length := by rw [HN.out]; exact hlt
        obtain ⟨b, off, hao, hbl, hrow⟩ := (HA.out.keep HBw.out).row (by omega)
        obtain ⟨b2, off2, hbo, hbl2, hrow2⟩ := (HB.out.keep HBw.out).row (by omega)
        subst hao
        subst hbo
        have c0 := hrow k hkx
        have d0 := hrow2 k hky
        rw [getD_keyQ hkx] at c0
        rw [getD_keyQ hky] at d0
        have HUp := Hid.mk (fun e => takeQ_up hkx hky HQ.out e)
        have HNo := Hid.mk (fun e => takeQ_no hkx hky e)
        generalize xs[k] = x at *
        generalize ys[k] = y at *
        have R0 := fun d os => cell_regrown c0 d os
        have S0 := fun d os => cell_regrown d0 d os
        clear hrow hrow2 hbl hbl2 hkx hky c0 d0
        cases hc : (x.toList == y.toList) with
        | true =>
          have HQ2 := Hid.mk (HUp.out (beqQ_yes hc))
          have hc2 : (x.toList != y.toList) = false := by simp only [bne]; rw [hc]; rfl
          clear HUp HNo
          go_wp2_with fail
          refine wp_region_quiet_below (by kernel_rfl) (by kernel_rfl) ?_
          repeat (go_big_quiet_step (fail))
          refine wpQuiet_nil ?_
          intro w2 hw'
          have HB2 : Hid (Below w.heap.size w w2) := by
            obtain ⟨⟨dq, osq⟩, rfl⟩ := hw'
            exact HBw.out.trans ((below_regrown wr dq osq).mono HBw.out.size)
          clear hw' R0 S0
          go_wp2_with fail
          go_roundw
          case rel => exact ⟨k + 1, by omega, by go_num, HB2, HQ2⟩
          case measure => simp [intOf]; omega
        | false =>
          have HT : Hid (R = false) := HR.out.symm.trans (sq_no (HNo.out (beqQ_no hc)))
          have hc2 : (x.toList != y.toList) = true := by simp only [bne]; rw [hc]; rfl
          clear HUp HNo
          go_wp2_with fail
          refine wp_region_quiet_below (by kernel_rfl) (by kernel_rfl) ?_
          repeat (go_big_quiet_step (fail))
          refine wpQuiet_nil ?_
          intro w2 hw'
          have HB2 : Hid (Below w.heap.size w w2) := by
            obtain ⟨⟨dq, osq⟩, rfl⟩ := hw'
            exact HBw.out.trans ((below_regrown wr dq osq).mono HBw.out.size)
          clear hw' R0 S0
          go_wp2_with fail
          go_ret
          exact ⟨by rw [HT.out]; rfl, HB2.out⟩
      · have hl1 : ¬ (k : Int) < (M : Int) := by omega
        have HT : Hid (R = true) := by
          have e := HQ.out
          rw [List.take_of_length_le (by rw [HM.out]; omega), List.take_of_length_le (by rw [HN.out]; omega)] at e
          exact HR.out.symm.trans (sq_iff.2 e)
        go_wp2_with fail
        go_ret
        exact ⟨by rw [HT.out]; rfl, HBw.out⟩
  · have HT : Hid (R = false) := HR.out.symm.trans (sq_no (fun e => hMN (by rw [← HM.out, ← HN.out, e])))
    have y1 : ((M : Int) != (N : Int)) = true := by simp; omega
    have y2 : ¬ (M : Int) = (N : Int) := by omega
    go_enter Tryz.func64, Tryz.ntmps64
    go_wp2_with fail
    go_ret
    exact ⟨by rw [HT.out]; rfl, Below.refl _ _⟩
end Go.Proofs.YtdmkfdaddacdhaaGreatDoor
