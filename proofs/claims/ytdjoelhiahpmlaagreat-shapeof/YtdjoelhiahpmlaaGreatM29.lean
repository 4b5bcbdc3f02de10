import Derived.Test.YtdjoelhiahpmlaaGreatM24
namespace Go.Proofs.YtdjoelhiahpmlaaGreat
open Go.RowKit Go.Shelf Go.Sort
set_option linter.unusedVariables false
set_option linter.unusedSimpArgs false
attribute [local go_sem] Oper.semAt_some

/-- two texts are one -/
def eqS (a b : ByteArray) : Bool := a.toList == b.toList
def eqB (a b : Bool) : Bool := a == b
/-- two lists are alike, part by part -/
def sameL {α : Type} (f : α → α → Bool) (xs ys : List α) : Bool := decide (xs.length = ys.length) && (xs.zip ys).all fun p => f p.1 p.2
def sSp (p q : ByteArray × ByteArray) : Bool := eqS p.1 q.1 && eqS p.2 q.2
def sAr (f : TT → TT → Bool) (a b : AR) : Bool := decide (a.min = b.min) && (decide (a.max = b.max) && f a.item b.item)
def sOb (f : TT → TT → Bool) (a b : OB) : Bool := sameL eqS a.names b.names && (sameL f a.fields b.fields && (sameL eqB a.must b.must && f a.rest b.rest))
/-- two types are alike, part by part -/
def sameT : Nat → TT → TT → Bool
  | 0, _, _ => false
  | h + 1, A, B => eqB A.all B.all && (eqB A.nul B.nul && (eqB A.fls B.fls && (eqB A.tru B.tru && (eqB A.any B.any && (sameL sSp A.nums B.nums && (sameL eqS A.texts B.texts && (sameL (sAr (sameT h)) A.arrs B.arrs && sameL (sOb (sameT h)) A.objs B.objs)))))))

set_option maxRecDepth 100000 in
set_option maxHeartbeats 6400000 in
theorem w_kSameStrings (ao : Option Addr) (M ac : Nat) (xs : List ByteArray) (bo : Option Addr) (N bc : Nat) (ys : List ByteArray) (w : World) (ha : KIn w ao xs) (hb : KIn w bo ys) (hM : xs.length = M) (hN : ys.length = N) (h1 : M ≤ ac) (h2 : N ≤ bc) (h3 : M ≤ 140737488355328) (h4 : N ≤ 140737488355328) :
    Calls Tryz.prog 20 #[.slice ao M ac, .slice bo N bc] w fun e w' => e = .returned (.bool (sameL eqS xs ys)) ∧ Below w.heap.size w w' := by
  by_cases hMN : M = N
  · subst hMN
    obtain ⟨R, hR⟩ : ∃ R, sameL eqS xs ys = R := ⟨_, rfl⟩
    obtain ⟨zs, hzs⟩ : ∃ zs, xs.zip ys = zs := ⟨_, rfl⟩
    have HR : Hid (R = zs.all fun p => eqS p.1 p.2) := by show _ = _; rw [← hR, ← hzs]; unfold sameL; rw [hM, hN, decide_eq_true rfl, Bool.true_and]
    have HZL : Hid (zs.length = M) := by show _ = _; rw [← hzs, List.length_zip, hM, hN, Nat.min_self]
    have HZ : Hid (∀ j, (hj : j < zs.length) → ∃ (h1 : j < xs.length) (h2 : j < ys.length), zs[j] = (xs[j], ys[j])) := by
      intro j hj
      subst hzs
      have := List.length_zip (l₁ := xs) (l₂ := ys)
      exact ⟨by omega, by omega, by rw [List.getElem_zip]⟩
    rw [hR]
    have HA := Hid.mk ha
    have HB := Hid.mk hb
    clear ha hb hM hN hR hzs
    go_enter Tryz.func20, Tryz.ntmps20
    go_wp2_with fail
    go_loopw [5] (fun i wr => ∃ k : Nat, k ≤ M ∧ i = .int .i64 (k : Int) ∧ Hid (Below w.heap.size w wr) ∧ Hid ((zs.take k).all (fun p => eqS p.1 p.2) = true)) (fun i _ => M - (intOf i).toNat)
    case atStart => exact ⟨0, Nat.zero_le _, rfl, Below.refl _ _, rfl⟩
    case round =>
      obtain ⟨k, hk, rfl, HW, HQ⟩ := hrel
      by_cases hlt : k < M
      · have hl1 : (k : Int) < (M : Int) := by omega
        have hl0 : (0 : Int) ≤ (k : Int) := by omega
        have hkl : k < zs.length := by rw [HZL.out]; exact hlt
        obtain ⟨z1, z2, hz⟩ := HZ.out k hkl
        obtain ⟨b1, off1, hp1, hbl1, hrow1⟩ := (HA.out.keep HW.out).row (by omega)
        subst hp1
        have x0 := hrow1 k z1
        rw [show xs.getD k ByteArray.empty = xs[k] from by simp [List.getD, z1]] at x0
        obtain ⟨b2, off2, hp2, hbl2, hrow2⟩ := (HB.out.keep HW.out).row (by omega)
        subst hp2
        have y0 := hrow2 k z2
        rw [show ys.getD k ByteArray.empty = ys[k] from by simp [List.getD, z2]] at y0
        have HU : Hid ((zs.take (k + 1)).all (fun p => eqS p.1 p.2) = eqS xs[k] ys[k]) := by show _ = _; rw [zall_up hkl, HQ.out, hz]; rfl
        have HNo : Hid (eqS xs[k] ys[k] = false → R = false) := fun hh => by rw [HR.out]; exact zall_no hkl (by rw [hz]; exact hh)
        obtain ⟨r, hr⟩ : ∃ r, eqS xs[k] ys[k] = r := ⟨_, rfl⟩
        rw [hr] at HU HNo
        have A_x0 := fun d os => cell_regrown x0 d os
        have A_y0 := fun d os => cell_regrown y0 d os
        clear hz HQ
        go_wp2_with fail
        cases r with
        | true =>
          have HU' := HU
          have hr1 : (xs[k].toList == ys[k].toList) = true := hr
          have hr2 : (xs[k].toList != ys[k].toList) = false := by simp only [bne]; rw [hr1]; rfl
          refine wp_region_quiet_below (by kernel_rfl) (by kernel_rfl) ?_
          repeat (go_big_quiet_step (fail))
          refine wpQuiet_nil ?_
          intro w9 hw'
          have hb9 : Below wr.heap.size wr w9 := by
            obtain ⟨⟨dq, osq⟩, rfl⟩ := hw'
            exact below_regrown wr dq osq
          have HW9 := Hid.mk (HW.out.trans (hb9.mono HW.out.size))
          clear hw' hb9 A_x0 x0 A_y0 y0
          go_wp2_with fail
          go_roundw
          case rel => exact ⟨k + 1, hlt, by go_num, HW9, HU'⟩
          case measure => simp [intOf]; omega
        | false =>
          have HF' := Hid.mk (HNo.out rfl)
          have hr1 : (xs[k].toList == ys[k].toList) = false := hr
          have hr2 : (xs[k].toList != ys[k].toList) = true := by simp only [bne]; rw [hr1]; rfl
          refine wp_region_quiet_below (by kernel_rfl) (by kernel_rfl) ?_
          repeat (go_big_quiet_step (fail))
          refine wpQuiet_nil ?_
          intro w9 hw'
          have hb9 : Below wr.heap.size wr w9 := by
            obtain ⟨⟨dq, osq⟩, rfl⟩ := hw'
            exact below_regrown wr dq osq
          have HW9 := Hid.mk (HW.out.trans (hb9.mono HW.out.size))
          clear hw' hb9 A_x0 x0 A_y0 y0
          go_wp2_with fail
          go_ret
          exact ⟨by first | (rw [HF'.out]; rfl) | rw [HF'.out], HW9.out⟩
      · have hl1 : ¬ (k : Int) < (M : Int) := by omega
        have HF' : Hid (R = true) := by show _ = _; rw [HR.out, ← HQ.out, List.take_of_length_le (by rw [HZL.out]; omega)]
        go_wp2_with fail
        go_ret
        exact ⟨by first | (rw [HF'.out]; rfl) | rw [HF'.out], HW.out⟩
  · have hne : ¬ (M : Int) = (N : Int) := by omega
    have HF : Hid (sameL eqS xs ys = false) := by show _ = _; unfold sameL; rw [hM, hN, decide_eq_false hMN, Bool.false_and]
    clear ha hb hM hN hMN
    go_enter Tryz.func20, Tryz.ntmps20
    go_wp2_with fail
    go_ret
    exact ⟨by first | (rw [HF.out]; rfl) | rw [HF.out], Below.refl _ _⟩
set_option maxRecDepth 100000 in
set_option maxHeartbeats 6400000 in
theorem w_kSameBools (ao : Option Addr) (M ac : Nat) (xs : List Bool) (bo : Option Addr) (N bc : Nat) (ys : List Bool) (w : World) (ha : BoIn w ao xs) (hb : BoIn w bo ys) (hM : xs.length = M) (hN : ys.length = N) (h1 : M ≤ ac) (h2 : N ≤ bc) (h3 : M ≤ 140737488355328) (h4 : N ≤ 140737488355328) :
    Calls Tryz.prog 65 #[.slice ao M ac, .slice bo N bc] w fun e w' => e = .returned (.bool (sameL eqB xs ys)) ∧ Below w.heap.size w w' := by
  by_cases hMN : M = N
  · subst hMN
    obtain ⟨R, hR⟩ : ∃ R, sameL eqB xs ys = R := ⟨_, rfl⟩
    obtain ⟨zs, hzs⟩ : ∃ zs, xs.zip ys = zs := ⟨_, rfl⟩
    have HR : Hid (R = zs.all fun p => eqB p.1 p.2) := by show _ = _; rw [← hR, ← hzs]; unfold sameL; rw [hM, hN, decide_eq_true rfl, Bool.true_and]
    have HZL : Hid (zs.length = M) := by show _ = _; rw [← hzs, List.length_zip, hM, hN, Nat.min_self]
    have HZ : Hid (∀ j, (hj : j < zs.length) → ∃ (h1 : j < xs.length) (h2 : j < ys.length), zs[j] = (xs[j], ys[j])) := by
      intro j hj
      subst hzs
      have := List.length_zip (l₁ := xs) (l₂ := ys)
      exact ⟨by omega, by omega, by rw [List.getElem_zip]⟩
    rw [hR]
    have HA := Hid.mk ha
    have HB := Hid.mk hb
    clear ha hb hM hN hR hzs
    go_enter Tryz.func65, Tryz.ntmps65
    go_wp2_with fail
    go_loopw [5] (fun i wr => ∃ k : Nat, k ≤ M ∧ i = .int .i64 (k : Int) ∧ Hid (Below w.heap.size w wr) ∧ Hid ((zs.take k).all (fun p => eqB p.1 p.2) = true)) (fun i _ => M - (intOf i).toNat)
    case atStart => exact ⟨0, Nat.zero_le _, rfl, Below.refl _ _, rfl⟩
    case round =>
      obtain ⟨k, hk, rfl, HW, HQ⟩ := hrel
      by_cases hlt : k < M
      · have hl1 : (k : Int) < (M : Int) := by omega
        have hl0 : (0 : Int) ≤ (k : Int) := by omega
        have hkl : k < zs.length := by rw [HZL.out]; exact hlt
        obtain ⟨z1, z2, hz⟩ := HZ.out k hkl
        obtain ⟨b1, off1, hp1, hbl1, hrow1⟩ := (HA.out.keep HW.out).row (by omega)
        subst hp1
        have x0 := hrow1 k z1
        obtain ⟨b2, off2, hp2, hbl2, hrow2⟩ := (HB.out.keep HW.out).row (by omega)
        subst hp2
        have y0 := hrow2 k z2
        have HU : Hid ((zs.take (k + 1)).all (fun p => eqB p.1 p.2) = eqB xs[k] ys[k]) := by show _ = _; rw [zall_up hkl, HQ.out, hz]; rfl
        have HNo : Hid (eqB xs[k] ys[k] = false → R = false) := fun hh => by rw [HR.out]; exact zall_no hkl (by rw [hz]; exact hh)
        obtain ⟨r, hr⟩ : ∃ r, eqB xs[k] ys[k] = r := ⟨_, rfl⟩
        rw [hr] at HU HNo
        have A_x0 := fun d os => cell_regrown x0 d os
        have A_y0 := fun d os => cell_regrown y0 d os
        clear hz HQ
        go_wp2_with fail
        cases r with
        | true =>
          have HU' := HU
          have hr1 : (xs[k] == ys[k]) = true := hr
          have hr2 : (xs[k] != ys[k]) = false := by simp only [bne]; rw [hr1]; rfl
          refine wp_region_quiet_below (by kernel_rfl) (by kernel_rfl) ?_
          repeat (go_big_quiet_step (fail))
          refine wpQuiet_nil ?_
          intro w9 hw'
          have hb9 : Below wr.heap.size wr w9 := by
            obtain ⟨⟨dq, osq⟩, rfl⟩ := hw'
            exact below_regrown wr dq osq
          have HW9 := Hid.mk (HW.out.trans (hb9.mono HW.out.size))
          clear hw' hb9 A_x0 x0 A_y0 y0
          go_wp2_with fail
          go_roundw
          case rel => exact ⟨k + 1, hlt, by go_num, HW9, HU'⟩
          case measure => simp [intOf]; omega
        | false =>
          have HF' := Hid.mk (HNo.out rfl)
          have hr1 : (xs[k] == ys[k]) = false := hr
          have hr2 : (xs[k] != ys[k]) = true := by simp only [bne]; rw [hr1]; rfl
          refine wp_region_quiet_below (by kernel_rfl) (by kernel_rfl) ?_
          repeat (go_big_quiet_step (fail))
          refine wpQuiet_nil ?_
          intro w9 hw'
          have hb9 : Below wr.heap.size wr w9 := by
            obtain ⟨⟨dq, osq⟩, rfl⟩ := hw'
            exact below_regrown wr dq osq
          have HW9 := Hid.mk (HW.out.trans (hb9.mono HW.out.size))
          clear hw' hb9 A_x0 x0 A_y0 y0
          go_wp2_with fail
          go_ret
          exact ⟨by first | (rw [HF'.out]; rfl) | rw [HF'.out], HW9.out⟩
      · have hl1 : ¬ (k : Int) < (M : Int) := by omega
        have HF' : Hid (R = true) := by show _ = _; rw [HR.out, ← HQ.out, List.take_of_length_le (by rw [HZL.out]; omega)]
        go_wp2_with fail
        go_ret
        exact ⟨by first | (rw [HF'.out]; rfl) | rw [HF'.out], HW.out⟩
  · have hne : ¬ (M : Int) = (N : Int) := by omega
    have HF : Hid (sameL eqB xs ys = false) := by show _ = _; unfold sameL; rw [hM, hN, decide_eq_false hMN, Bool.false_and]
    clear ha hb hM hN hMN
    go_enter Tryz.func65, Tryz.ntmps65
    go_wp2_with fail
    go_ret
    exact ⟨by first | (rw [HF.out]; rfl) | rw [HF.out], Below.refl _ _⟩
set_option maxRecDepth 100000 in
set_option maxHeartbeats 1600000 in
theorem w_kSameSpan (al ah bl bh : ByteArray) (w : World) : Calls Tryz.prog 47 #[.agg #[.string al, .string ah], .agg #[.string bl, .string bh]] w fun e w' => e = .returned (.bool (sSp (al, ah) (bl, bh))) ∧ Below w.heap.size w w' := by
  obtain ⟨W0, hW0⟩ : ∃ W0, (w.alloc (.cells #[.string al, .string ah] 44)).alloc (.cells #[.string bl, .string bh] 44) = W0 := ⟨_, rfl⟩
  have HB : Hid (Below w.heap.size w W0) := by rw [← hW0]; exact ((Below.refl _ _).alloc (Nat.le_refl _) _).alloc (by simp) _
  have c0 : W0.cell? ⟨w.heap.size, 0, none⟩ = some (.string al) := by rw [← hW0]; simp [go_sem]
  have c1 : W0.cell? ⟨w.heap.size, 1, none⟩ = some (.string ah) := by rw [← hW0]; simp [go_sem]
  have c2 : W0.cell? ⟨w.heap.size + 1, 0, none⟩ = some (.string bl) := by rw [← hW0]; simp [go_sem]
  have c3 : W0.cell? ⟨w.heap.size + 1, 1, none⟩ = some (.string bh) := by rw [← hW0]; simp [go_sem]
  cases e1 : (al.toList == bl.toList) <;> cases e2 : (ah.toList == bh.toList)
  all_goals
    have f1 : (al.toList != bl.toList) = !(al.toList == bl.toList) := rfl
    have f2 : (ah.toList != bh.toList) = !(ah.toList == bh.toList) := rfl
    rw [e1] at f1
    rw [e2] at f2
    have HG := Hid.mk (show sSp (al, ah) (bl, bh) = _ from by unfold sSp eqS; rw [e1, e2])
    simp only [Bool.not_true, Bool.not_false] at f1 f2
    go_enter Tryz.func47, Tryz.ntmps47
    go_wp2_with fail
    go_ret
    exact ⟨by first | (rw [HG.out]; rfl) | rw [HG.out], HB.out⟩

set_option maxRecDepth 100000 in
set_option maxHeartbeats 6400000 in
theorem w_kSameSpans (ao : Option Addr) (M ac : Nat) (xs : List (ByteArray × ByteArray)) (bo : Option Addr) (N bc : Nat) (ys : List (ByteArray × ByteArray)) (w : World) (ha : SpIn w ao xs) (hb : SpIn w bo ys) (hM : xs.length = M) (hN : ys.length = N) (h1 : M ≤ ac) (h2 : N ≤ bc) (h3 : M ≤ 140737488355328) (h4 : N ≤ 140737488355328) :
    Calls Tryz.prog 19 #[.slice ao M ac, .slice bo N bc] w fun e w' => e = .returned (.bool (sameL sSp xs ys)) ∧ Below w.heap.size w w' := by
  by_cases hMN : M = N
  · subst hMN
    obtain ⟨R, hR⟩ : ∃ R, sameL sSp xs ys = R := ⟨_, rfl⟩
    obtain ⟨zs, hzs⟩ : ∃ zs, xs.zip ys = zs := ⟨_, rfl⟩
    have HR : Hid (R = zs.all fun p => sSp p.1 p.2) := by show _ = _; rw [← hR, ← hzs]; unfold sameL; rw [hM, hN, decide_eq_true rfl, Bool.true_and]
    have HZL : Hid (zs.length = M) := by show _ = _; rw [← hzs, List.length_zip, hM, hN, Nat.min_self]
    have HZ : Hid (∀ j, (hj : j < zs.length) → ∃ (h1 : j < xs.length) (h2 : j < ys.length), zs[j] = (xs[j], ys[j])) := by
      intro j hj
      subst hzs
      have := List.length_zip (l₁ := xs) (l₂ := ys)
      exact ⟨by omega, by omega, by rw [List.getElem_zip]⟩
    rw [hR]
    have HA := Hid.mk ha
    have HB := Hid.mk hb
    clear ha hb hM hN hR hzs
    go_enter Tryz.func19, Tryz.ntmps19
    go_wp2_with fail
    go_loopw [5] (fun i wr => ∃ k : Nat, k ≤ M ∧ i = .int .i64 (k : Int) ∧ Hid (Below w.heap.size w wr) ∧ Hid ((zs.take k).all (fun p => sSp p.1 p.2) = true)) (fun i _ => M - (intOf i).toNat)
    case atStart => exact ⟨0, Nat.zero_le _, rfl, Below.refl _ _, rfl⟩
    case round =>
      obtain ⟨k, hk, rfl, HW, HQ⟩ := hrel
      by_cases hlt : k < M
      · have hl1 : (k : Int) < (M : Int) := by omega
        have hl0 : (0 : Int) ≤ (k : Int) := by omega
        have hkl : k < zs.length := by rw [HZL.out]; exact hlt
        obtain ⟨z1, z2, hz⟩ := HZ.out k hkl
        obtain ⟨b1, off1, hp1, hbl1, hrow1⟩ := (HA.out.keep HW.out).row (by omega)
        subst hp1
        obtain ⟨x0, x1⟩ := hrow1 k z1
        obtain ⟨b2, off2, hp2, hbl2, hrow2⟩ := (HB.out.keep HW.out).row (by omega)
        subst hp2
        obtain ⟨y0, y1⟩ := hrow2 k z2
        have HC := Hid.mk (fun (d : Nat) (os : Array Obj) => w_kSameSpan xs[k].1 xs[k].2 ys[k].1 ys[k].2 (grow (redrawn wr d) os))
        have HU : Hid ((zs.take (k + 1)).all (fun p => sSp p.1 p.2) = sSp xs[k] ys[k]) := by show _ = _; rw [zall_up hkl, HQ.out, hz]; rfl
        have HNo : Hid (sSp xs[k] ys[k] = false → R = false) := fun hh => by rw [HR.out]; exact zall_no hkl (by rw [hz]; exact hh)
        obtain ⟨r, hr⟩ : ∃ r, sSp xs[k] ys[k] = r := ⟨_, rfl⟩
        rw [hr] at HU HNo
        rw [hr] at HC
        clear hr
        have A_x0 := fun d os => cell_regrown x0 d os
        have A_x1 := fun d os => cell_regrown x1 d os
        have A_y0 := fun d os => cell_regrown y0 d os
        have A_y1 := fun d os => cell_regrown y1 d os
        clear hz HQ
        go_wp2_with fail
        cases r with
        | true =>
          have HU' := HU
          refine wp_region_quiet_below (by kernel_rfl) (by kernel_rfl) ?_
          repeat (go_big_quiet_step (exact Calls.regrown_of (HC.out _ _)))
          refine wpQuiet_nil ?_
          intro w9 hw'
          have hb9 : Below wr.heap.size wr w9 := by
            obtain ⟨⟨dq, osq⟩, rfl⟩ := hw'
            exact below_regrown wr dq osq
          have HW9 := Hid.mk (HW.out.trans (hb9.mono HW.out.size))
          clear hw' hb9 A_x0 x0 A_x1 x1 A_y0 y0 A_y1 y1
          go_wp2_with fail
          go_roundw
          case rel => exact ⟨k + 1, hlt, by go_num, HW9, HU'⟩
          case measure => simp [intOf]; omega
        | false =>
          have HF' := Hid.mk (HNo.out rfl)
          refine wp_region_quiet_below (by kernel_rfl) (by kernel_rfl) ?_
          repeat (go_big_quiet_step (exact Calls.regrown_of (HC.out _ _)))
          refine wpQuiet_nil ?_
          intro w9 hw'
          have hb9 : Below wr.heap.size wr w9 := by
            obtain ⟨⟨dq, osq⟩, rfl⟩ := hw'
            exact below_regrown wr dq osq
          have HW9 := Hid.mk (HW.out.trans (hb9.mono HW.out.size))
          clear hw' hb9 A_x0 x0 A_x1 x1 A_y0 y0 A_y1 y1
          go_wp2_with fail
          go_ret
          exact ⟨by first | (rw [HF'.out]; rfl) | rw [HF'.out], HW9.out⟩
      · have hl1 : ¬ (k : Int) < (M : Int) := by omega
        have HF' : Hid (R = true) := by show _ = _; rw [HR.out, ← HQ.out, List.take_of_length_le (by rw [HZL.out]; omega)]
        go_wp2_with fail
        go_ret
        exact ⟨by first | (rw [HF'.out]; rfl) | rw [HF'.out], HW.out⟩
  · have hne : ¬ (M : Int) = (N : Int) := by omega
    have HF : Hid (sameL sSp xs ys = false) := by show _ = _; unfold sameL; rw [hM, hN, decide_eq_false hMN, Bool.false_and]
    clear ha hb hM hN hMN
    go_enter Tryz.func19, Tryz.ntmps19
    go_wp2_with fail
    go_ret
    exact ⟨by first | (rw [HF.out]; rfl) | rw [HF.out], Below.refl _ _⟩
end Go.Proofs.YtdjoelhiahpmlaaGreat
