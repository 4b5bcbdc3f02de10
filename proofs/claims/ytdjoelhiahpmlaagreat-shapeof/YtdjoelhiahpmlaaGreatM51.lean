import Derived.Test.YtdjoelhiahpmlaaGreatM32
import Derived.Test.YtdjoelhiahpmlaaGreatM23
import Derived.Test.YtdjoelhiahpmlaaGreatM30
import Derived.Test.YtdjoelhiahpmlaaGreatM22
namespace Go.Proofs.YtdjoelhiahpmlaaGreat
open Go.RowKit Go.Shelf Go.Sort
set_option linter.unusedVariables false
set_option linter.unusedSimpArgs false
attribute [local go_sem] Oper.semAt_some


theorem w_rTruth (a b : Bool) (w : World) : Calls Tryz.prog 73 #[.bool a, .bool b] w fun e w' => e = .returned (.int .i64 (setC a b)) ∧ w' = w := by
  cases a <;> cases b
  all_goals
    go_enter Tryz.func73, Tryz.ntmps73
    go_wp2_with fail
    go_ret
    exact ⟨by rfl, rfl⟩
set_option maxRecDepth 100000 in
set_option maxHeartbeats 1600000 in
theorem w_rBounds (a b : ByteArray) (en : Int) (w : World) (he : en = -1 ∨ en = 1) (ka : bdk a) (kb : bdk b) (ha : a.size ≤ 140737488355328) (hb : b.size ≤ 140737488355328) : Calls Tryz.prog 79 #[.string a, .string b, .int .i64 en] w fun e w' => e = .returned (.int .i64 (bdC a b en)) ∧ Below w.heap.size w w' := by
  cases h1 : (a.toList == b.toList) with
  | true =>
    have HX : Hid (bdC a b en = 0) := by show _ = _; unfold bdC eqS; rw [h1]; rfl
    go_enter Tryz.func79, Tryz.ntmps79
    go_wp2_with fail
    go_ret
    exact ⟨by rw [HX.out]; rfl, Below.refl _ _⟩
  | false =>
    by_cases h2 : a.toList = []
    · have h2' : a.toList.isEmpty = true := by rw [h2]; rfl
      have HX : Hid (bdC a b en = en) := by show _ = _; unfold bdC eqS; rw [h1, h2']; rfl
      have h4 : b.toList.isEmpty = false := by
        cases h : b.toList with
        | nil => rw [h2, h] at h1; cases h1
        | cons => rfl
      have h5 : ¬ b.toList = [] := fun h => by rw [h] at h4; cases h4
      go_enter Tryz.func79, Tryz.ntmps79
      go_wp2_with fail
      go_ret
      exact ⟨by rw [HX.out]; rfl, Below.refl _ _⟩
    · have h2' : a.toList.isEmpty = false := by cases h : a.toList with | nil => exact absurd h h2 | cons => rfl
      by_cases h3 : b.toList = []
      · have h3' : b.toList.isEmpty = true := by rw [h3]; rfl
        have HX : Hid (bdC a b en = -en) := by show _ = _; unfold bdC eqS; rw [h1, h2', h3']; rfl
        rcases he with rfl | rfl
        all_goals
          go_enter Tryz.func79, Tryz.ntmps79
          go_wp2_with fail
          go_ret
          exact ⟨by rw [HX.out]; rfl, Below.refl _ _⟩
      · have h3' : b.toList.isEmpty = false := by cases h : b.toList with | nil => exact absurd h h3 | cons => rfl
        have HX : Hid (bdC a b en = numC a b) := by show _ = _; unfold bdC eqS; rw [h1, h2', h3']; rfl
        have fa : Pl.formed a.data.toList = true := ka.resolve_left (fun h => by rw [emp_size] at h2'; simp [h] at h2')
        have fb : Pl.formed b.data.toList = true := kb.resolve_left (fun h => by rw [emp_size] at h3'; simp [h] at h3')
        have HC := Hid.mk (fun u => w_Numbers a b u fa fb ha hb)
        generalize numC a b = c at HC HX
        clear ka kb fa fb
        go_enter Tryz.func79, Tryz.ntmps79
        go_wp2_with fail
        refine (HC.out _).mono ?_
        rintro e w1 ⟨rfl, hb1⟩
        have HB := Hid.mk hb1
        clear hb1
        go_wp2_with fail
        go_ret
        exact ⟨by rw [HX.out]; rfl, HB.out⟩
theorem lens_end {α : Type} {c : α → α → Int} {xs ys : List α} {k M N : Nat} (hM : xs.length = M) (hN : ys.length = N) (hk : k ≤ M) (hk2 : k ≤ N) (h : ¬ k < M ∨ ¬ k < N) : listC c (xs.drop k) (ys.drop k) = Pl.cmpI M N := by
  unfold Pl.cmpI
  by_cases h1 : k < M
  · rw [listC_more (by omega) (by omega), if_neg (by omega), if_pos (by omega)]
  · by_cases h2 : k < N
    · rw [listC_less (by omega) (by omega), if_pos (by omega)]
    · rw [listC_even (by omega) (by omega), if_neg (by omega), if_neg (by omega)]

set_option maxRecDepth 100000 in
set_option maxHeartbeats 3200000 in
theorem w_rWords (sa sb sc sd : Bool) (seo : Option Addr) (sen sec : Nat) (sf : Bool) (sgo : Option Addr) (sgn sgc : Nat) (sio : Option Addr) (sinn sic : Nat) (sjo : Option Addr) (sjn sjc : Nat) (ta tb tc td : Bool) (teo : Option Addr) (ten tec : Nat) (tf : Bool) (tgo : Option Addr) (tgn tgc : Nat) (tio : Option Addr) (tinn tic : Nat) (tjo : Option Addr) (tjn tjc : Nat) (w : World) :
    Calls Tryz.prog 71 #[.agg #[.bool sa, .bool sb, .bool sc, .bool sd, .slice seo sen sec, .bool sf, .slice sgo sgn sgc, .slice sio sinn sic, .slice sjo sjn sjc], .agg #[.bool ta, .bool tb, .bool tc, .bool td, .slice teo ten tec, .bool tf, .slice tgo tgn tgc, .slice tio tinn tic, .slice tjo tjn tjc]] w fun e w' => e = .returned (.int .i64 (Pl.orI (setC sa ta) (Pl.orI (setC sb tb) (Pl.orI (setC sc tc) (setC sd td))))) ∧ Below w.heap.size w w' := by
  have HX := Hid.mk (bx2_new w #[.bool sa, .bool sb, .bool sc, .bool sd, .slice seo sen sec, .bool sf, .slice sgo sgn sgc, .slice sio sinn sic, .slice sjo sjn sjc] #[.bool ta, .bool tb, .bool tc, .bool td, .slice teo ten tec, .bool tf, .slice tgo tgn tgc, .slice tio tinn tic, .slice tjo tjn tjc] 32)
  obtain ⟨W0, hW0⟩ : ∃ W0, (w.alloc (.cells #[.bool sa, .bool sb, .bool sc, .bool sd, .slice seo sen sec, .bool sf, .slice sgo sgn sgc, .slice sio sinn sic, .slice sjo sjn sjc] 32)).alloc (.cells #[.bool ta, .bool tb, .bool tc, .bool td, .slice teo ten tec, .bool tf, .slice tgo tgn tgc, .slice tio tinn tic, .slice tjo tjn tjc] 32) = W0 := ⟨_, rfl⟩
  rw [hW0] at HX
  have p0 : W0.cell? ⟨w.heap.size, 0, none⟩ = some (.bool sa) := HX.out.one 0
  have q0 : W0.cell? ⟨w.heap.size + 1, 0, none⟩ = some (.bool ta) := HX.out.two 0
  have p1 : W0.cell? ⟨w.heap.size, 1, none⟩ = some (.bool sb) := HX.out.one 1
  have q1 : W0.cell? ⟨w.heap.size + 1, 1, none⟩ = some (.bool tb) := HX.out.two 1
  have p2 : W0.cell? ⟨w.heap.size, 2, none⟩ = some (.bool sc) := HX.out.one 2
  have q2 : W0.cell? ⟨w.heap.size + 1, 2, none⟩ = some (.bool tc) := HX.out.two 2
  have p3 : W0.cell? ⟨w.heap.size, 3, none⟩ = some (.bool sd) := HX.out.one 3
  have q3 : W0.cell? ⟨w.heap.size + 1, 3, none⟩ = some (.bool td) := HX.out.two 3
  have C0 := Hid.mk (fun u => w_rTruth sa ta u)
  have C1 := Hid.mk (fun u => w_rTruth sb tb u)
  have C2 := Hid.mk (fun u => w_rTruth sc tc u)
  have C3 := Hid.mk (fun u => w_rTruth sd td u)
  obtain ⟨R, hR⟩ : ∃ R, Pl.orI (setC sa ta) (Pl.orI (setC sb tb) (Pl.orI (setC sc tc) (setC sd td))) = R := ⟨_, rfl⟩
  have HQ := Hid.mk hR.symm
  rw [hR]
  clear hR
  generalize setC sa ta = x0 at C0 HQ
  generalize setC sb tb = x1 at C1 HQ
  generalize setC sc tc = x2 at C2 HQ
  generalize setC sd td = x3 at C3 HQ
  go_enter Tryz.func71, Tryz.ntmps71
  go_wp2_with fail
  refine (C0.out _).mono ?_
  rintro e w1 ⟨rfl, hw⟩
  obtain rfl := hw.symm
  clear C0
  by_cases h0 : x0 = 0
  · subst h0
    replace HQ : Hid (R = (Pl.orI x1 (Pl.orI x2 x3))) := HQ.out
    go_wp2_with fail
    refine (C1.out _).mono ?_
    rintro e w2 ⟨rfl, hw⟩
    obtain rfl := hw.symm
    clear C1
    by_cases h1 : x1 = 0
    · subst h1
      replace HQ : Hid (R = (Pl.orI x2 x3)) := HQ.out
      go_wp2_with fail
      refine (C2.out _).mono ?_
      rintro e w3 ⟨rfl, hw⟩
      obtain rfl := hw.symm
      clear C2
      by_cases h2 : x2 = 0
      · subst h2
        replace HQ : Hid (R = x3) := HQ.out
        go_wp2_with fail
        refine (C3.out _).mono ?_
        rintro e w4 ⟨rfl, hw⟩
        obtain rfl := hw.symm
        clear C3
        go_wp2_with fail
        go_ret
        exact ⟨by rw [HQ.out]; rfl, HX.out.below⟩
      · have HN : Hid (R = x2) := by show _ = _; rw [HQ.out]; unfold Pl.orI; rw [if_neg h2]
        have h2' : (x2 == 0) = false := by simpa using h2
        clear HQ h2
        go_wp2_with fail
        go_ret
        exact ⟨by rw [HN.out]; rfl, HX.out.below⟩
    · have HN : Hid (R = x1) := by show _ = _; rw [HQ.out]; unfold Pl.orI; rw [if_neg h1]
      have h1' : (x1 == 0) = false := by simpa using h1
      clear HQ h1
      go_wp2_with fail
      go_ret
      exact ⟨by rw [HN.out]; rfl, HX.out.below⟩
  · have HN : Hid (R = x0) := by show _ = _; rw [HQ.out]; unfold Pl.orI; rw [if_neg h0]
    have h0' : (x0 == 0) = false := by simpa using h0
    clear HQ h0
    go_wp2_with fail
    go_ret
    exact ⟨by rw [HN.out]; rfl, HX.out.below⟩
set_option maxRecDepth 100000 in
set_option maxHeartbeats 6400000 in
theorem w_rTextsL (ao : Option Addr) (M ac : Nat) (xs : List (ByteArray)) (bo : Option Addr) (N bc : Nat) (ys : List (ByteArray)) (w : World) (ha : KIn w ao xs) (hb : KIn w bo ys) (hM : xs.length = M) (hN : ys.length = N) (h1 : M ≤ ac) (h2 : N ≤ bc) (h3 : M ≤ 140737488355328) (h4 : N ≤ 140737488355328) :
    Calls Tryz.prog 74 #[.slice ao M ac, .slice bo N bc] w fun e w' => e = .returned (.int .i64 (listC keyC xs ys)) ∧ Below w.heap.size w w' := by
  have HA := Hid.mk ha
  have HB := Hid.mk hb
  have HM := Hid.mk hM
  have HN := Hid.mk hN
  have HL := Hid.mk (fun u => w_rLens (M : Int) (N : Int) u)
  clear ha hb hM hN
  go_enter Tryz.func74, Tryz.ntmps74
  go_wp2_with fail
  go_loopw [5] (fun i wr => ∃ k : Nat, k ≤ M ∧ k ≤ N ∧ i = .int .i64 (k : Int) ∧ Hid (Below w.heap.size w wr) ∧ Hid (listC keyC xs ys = listC keyC (xs.drop k) (ys.drop k))) (fun i _ => M - (intOf i).toNat)
  case atStart => exact ⟨0, Nat.zero_le _, Nat.zero_le _, rfl, Below.refl _ _, rfl⟩
  case round =>
    obtain ⟨k, hk, hk2, rfl, HW, HQ⟩ := hrel
    by_cases hlt : k < M
    · have hl1 : (k : Int) < (M : Int) := by omega
      have hl0 : (0 : Int) ≤ (k : Int) := by omega
      by_cases hlt2 : k < N
      · have hl2 : (k : Int) < (N : Int) := by omega
        have hka : k < xs.length := by rw [HM.out]; exact hlt
        have hkb : k < ys.length := by rw [HN.out]; exact hlt2
        have HS := Hid.mk (listC_step (c := keyC) hka hkb)
        clear HL
        obtain ⟨b1, off1, hp1, hbl1, hrow1⟩ := (HA.out.keep HW.out).row (by omega)
        subst hp1
        have x0 := hrow1 k hka
        rw [getD_key hka] at x0
        obtain ⟨b2, off2, hp2, hbl2, hrow2⟩ := (HB.out.keep HW.out).row (by omega)
        subst hp2
        have y0 := hrow2 k hkb
        rw [getD_key hkb] at y0
        have HC := Hid.mk (fun (d : Nat) (os : Array Obj) => (w_rTexts xs[k] ys[k] (grow (redrawn wr d) os)).mono (fun e w' kq => (⟨kq.1, by rw [kq.2]; exact Below.refl _ _⟩ : e = .returned (.int .i64 (keyC xs[k] ys[k])) ∧ Below (grow (redrawn wr d) os).heap.size (grow (redrawn wr d) os) w')))
        generalize keyC xs[k] ys[k] = c at HC HS
        generalize xs[k] = e1 at *
        generalize ys[k] = e2 at *
        clear hrow1 hrow2 hka hkb
        have Ax0 := fun d os => cell_regrown x0 d os
        have Ay0 := fun d os => cell_regrown y0 d os
        by_cases h0 : c = 0
        · have HN2 : Hid (listC keyC xs ys = listC keyC (xs.drop (k + 1)) (ys.drop (k + 1))) := by show _ = _; rw [HQ.out, HS.out, if_pos h0]
          subst h0
          clear HS HQ
          go_wp2_with fail
          refine wp_region_quiet_below (by kernel_rfl) (by kernel_rfl) ?_
          repeat (go_big_quiet_step (exact Calls.regrown_of (HC.out _ _)))
          refine wpQuiet_nil ?_
          intro w9 hw'
          have hb9 : Below wr.heap.size wr w9 := by
            obtain ⟨⟨dq, osq⟩, rfl⟩ := hw'
            exact below_regrown wr dq osq
          have HW9 := Hid.mk (HW.out.trans (hb9.mono HW.out.size))
          clear hw' hb9 Ax0 x0 Ay0 y0
          go_wp2_with fail
          go_roundw
          case rel => exact ⟨k + 1, hlt, hlt2, by go_num, HW9, HN2⟩
          case measure => simp [intOf]; omega
        · have HN2 : Hid (listC keyC xs ys = c) := by show _ = _; rw [HQ.out, HS.out, if_neg h0]
          have h0' : (c != 0) = true := by simpa using h0
          clear HS HQ h0
          go_wp2_with fail
          refine wp_region_quiet_below (by kernel_rfl) (by kernel_rfl) ?_
          repeat (go_big_quiet_step (exact Calls.regrown_of (HC.out _ _)))
          refine wpQuiet_nil ?_
          intro w9 hw'
          have hb9 : Below wr.heap.size wr w9 := by
            obtain ⟨⟨dq, osq⟩, rfl⟩ := hw'
            exact below_regrown wr dq osq
          have HW9 := Hid.mk (HW.out.trans (hb9.mono HW.out.size))
          clear hw' hb9 Ax0 x0 Ay0 y0
          go_wp2_with fail
          go_ret
          exact ⟨by rw [HN2.out]; rfl, HW9.out⟩
      · have hl2 : ¬ (k : Int) < (N : Int) := by omega
        have HF : Hid (listC keyC xs ys = Pl.cmpI M N) := by show _ = _; rw [HQ.out]; exact lens_end HM.out HN.out hk hk2 (.inr hlt2)
        generalize Pl.cmpI (M : Int) (N : Int) = z at HF HL
        clear HQ HA HB
        go_wp2_with fail
        refine (HL.out _).mono ?_
        rintro e w2 ⟨rfl, hw⟩
        obtain rfl := hw.symm
        go_wp2_with fail
        go_ret
        exact ⟨by rw [HF.out]; rfl, HW.out⟩
    · have hl1 : ¬ (k : Int) < (M : Int) := by omega
      have HF : Hid (listC keyC xs ys = Pl.cmpI M N) := by show _ = _; rw [HQ.out]; exact lens_end HM.out HN.out hk hk2 (.inl hlt)
      generalize Pl.cmpI (M : Int) (N : Int) = z at HF HL
      clear HQ HA HB
      go_wp2_with fail
      refine (HL.out _).mono ?_
      rintro e w2 ⟨rfl, hw⟩
      obtain rfl := hw.symm
      go_wp2_with fail
      go_ret
      exact ⟨by rw [HF.out]; rfl, HW.out⟩
set_option maxRecDepth 100000 in
set_option maxHeartbeats 6400000 in
theorem w_rNumsL (ao : Option Addr) (M ac : Nat) (xs : List (ByteArray × ByteArray)) (bo : Option Addr) (N bc : Nat) (ys : List (ByteArray × ByteArray)) (w : World) (ha : SpIn w ao xs) (hb : SpIn w bo ys) (hM : xs.length = M) (hN : ys.length = N) (h1 : M ≤ ac) (h2 : N ≤ bc) (h3 : M ≤ 140737488355328) (h4 : N ≤ 140737488355328) (kx : ∀ p ∈ xs, (bdk p.1 ∧ bdk p.2) ∧ p.1.size ≤ 140737488355328 ∧ p.2.size ≤ 140737488355328) (ky : ∀ p ∈ ys, (bdk p.1 ∧ bdk p.2) ∧ p.1.size ≤ 140737488355328 ∧ p.2.size ≤ 140737488355328) :
    Calls Tryz.prog 72 #[.slice ao M ac, .slice bo N bc] w fun e w' => e = .returned (.int .i64 (listC spC xs ys)) ∧ Below w.heap.size w w' := by
  have HA := Hid.mk ha
  have HB := Hid.mk hb
  have HM := Hid.mk hM
  have HN := Hid.mk hN
  have HL := Hid.mk (fun u => w_rLens (M : Int) (N : Int) u)
  have HKX := Hid.mk kx
  have HKY := Hid.mk ky
  clear kx ky
  clear ha hb hM hN
  go_enter Tryz.func72, Tryz.ntmps72
  go_wp2_with fail
  go_loopw [5] (fun i wr => ∃ k : Nat, k ≤ M ∧ k ≤ N ∧ i = .int .i64 (k : Int) ∧ Hid (Below w.heap.size w wr) ∧ Hid (listC spC xs ys = listC spC (xs.drop k) (ys.drop k))) (fun i _ => M - (intOf i).toNat)
  case atStart => exact ⟨0, Nat.zero_le _, Nat.zero_le _, rfl, Below.refl _ _, rfl⟩
  case round =>
    obtain ⟨k, hk, hk2, rfl, HW, HQ⟩ := hrel
    by_cases hlt : k < M
    · have hl1 : (k : Int) < (M : Int) := by omega
      have hl0 : (0 : Int) ≤ (k : Int) := by omega
      by_cases hlt2 : k < N
      · have hl2 : (k : Int) < (N : Int) := by omega
        have hka : k < xs.length := by rw [HM.out]; exact hlt
        have hkb : k < ys.length := by rw [HN.out]; exact hlt2
        have HS := Hid.mk (listC_step (c := spC) hka hkb)
        clear HL
        obtain ⟨b1, off1, hp1, hbl1, hrow1⟩ := (HA.out.keep HW.out).row (by omega)
        subst hp1
        obtain ⟨x0, x1⟩ := hrow1 k hka
        obtain ⟨b2, off2, hp2, hbl2, hrow2⟩ := (HB.out.keep HW.out).row (by omega)
        subst hp2
        obtain ⟨y0, y1⟩ := hrow2 k hkb
        have gx := HKX.out _ (List.getElem_mem hka)
        have gy := HKY.out _ (List.getElem_mem hkb)
        have HC := Hid.mk (fun (d : Nat) (os : Array Obj) => w_rBounds xs[k].1 ys[k].1 (-1) (grow (redrawn wr d) os) (.inl rfl) gx.1.1 gy.1.1 gx.2.1 gy.2.1)
        have HD := Hid.mk (fun u => w_rBounds xs[k].2 ys[k].2 1 u (.inr rfl) gx.1.2 gy.1.2 gx.2.2 gy.2.2)
        have HSP : Hid (spC xs[k] ys[k] = Pl.orI (bdC xs[k].1 ys[k].1 (-1)) (bdC xs[k].2 ys[k].2 1)) := rfl
        generalize bdC xs[k].1 ys[k].1 (-1) = c at HC HSP
        generalize bdC xs[k].2 ys[k].2 1 = d at HD HSP
        generalize spC xs[k] ys[k] = s at HS HSP
        generalize xs[k].1 = e1 at *
        generalize ys[k].1 = e2 at *
        generalize xs[k].2 = e3 at *
        generalize ys[k].2 = e4 at *
        clear hrow1 hrow2 hka hkb gx gy
        have Ax0 := fun d os => cell_regrown x0 d os
        have Ay0 := fun d os => cell_regrown y0 d os
        by_cases h0 : c = 0
        · subst h0
          have HSP2 : Hid (s = d) := HSP.out
          clear HSP
          go_wp2_with fail
          refine wp_region_quiet_below (by kernel_rfl) (by kernel_rfl) ?_
          repeat (go_big_quiet_step (exact Calls.regrown_of (HC.out _ _)))
          refine wpQuiet_nil ?_
          intro w9 hw'
          have hb9 : Below wr.heap.size wr w9 := by
            obtain ⟨⟨dq, osq⟩, rfl⟩ := hw'
            exact below_regrown wr dq osq
          have HW9 := Hid.mk (HW.out.trans (hb9.mono HW.out.size))
          replace x1 := (hb9.cell (p := ⟨_, _, _⟩) hbl1).trans x1
          replace y1 := (hb9.cell (p := ⟨_, _, _⟩) hbl2).trans y1
          clear hw' hb9 Ax0 Ay0 x0 y0
          have HE := Hid.mk (fun (d : Nat) (os : Array Obj) => HD.out (grow (redrawn w9 d) os))
          have Ax1 := fun d os => cell_regrown x1 d os
          have Ay1 := fun d os => cell_regrown y1 d os
          by_cases h1 : d = 0
          · have HN2 : Hid (listC spC xs ys = listC spC (xs.drop (k + 1)) (ys.drop (k + 1))) := by show _ = _; rw [HQ.out, HS.out, if_pos (HSP2.out.trans h1)]
            subst h1
            clear HS HQ HSP2
            go_wp2_with fail
            refine wp_region_quiet_below (by kernel_rfl) (by kernel_rfl) ?_
            repeat (go_big_quiet_step (exact Calls.regrown_of (HE.out _ _)))
            refine wpQuiet_nil ?_
            intro w8 hw8
            have hb8 : Below w9.heap.size w9 w8 := by
              obtain ⟨⟨dq, osq⟩, rfl⟩ := hw8
              exact below_regrown w9 dq osq
            have HW8 := Hid.mk (HW9.out.trans (hb8.mono HW9.out.size))
            clear hw8 hb8 Ax1 Ay1 x1 y1
            go_wp2_with fail
            go_roundw
            case rel => exact ⟨k + 1, hlt, hlt2, by go_num, HW8, HN2⟩
            case measure => simp [intOf]; omega
          · have HN2 : Hid (listC spC xs ys = d) := by show _ = _; rw [HQ.out, HS.out, HSP2.out, if_neg h1]
            have h1' : (d != 0) = true := by simpa using h1
            clear HS HQ HSP2 h1
            go_wp2_with fail
            refine wp_region_quiet_below (by kernel_rfl) (by kernel_rfl) ?_
            repeat (go_big_quiet_step (exact Calls.regrown_of (HE.out _ _)))
            refine wpQuiet_nil ?_
            intro w8 hw8
            have hb8 : Below w9.heap.size w9 w8 := by
              obtain ⟨⟨dq, osq⟩, rfl⟩ := hw8
              exact below_regrown w9 dq osq
            have HW8 := Hid.mk (HW9.out.trans (hb8.mono HW9.out.size))
            clear hw8 hb8 Ax1 Ay1 x1 y1
            go_wp2_with fail
            go_ret
            exact ⟨by rw [HN2.out]; rfl, HW8.out⟩
        · have hsc : s = c := by have := HSP.out; rw [this]; unfold Pl.orI; rw [if_neg h0]
          have HN2 : Hid (listC spC xs ys = c) := by show _ = _; rw [HQ.out, HS.out, hsc, if_neg h0]
          have h0' : (c == 0) = false := by simpa using h0
          have h0'' : (c != 0) = true := by simpa using h0
          clear HS HQ HSP h0 hsc
          go_wp2_with fail
          refine wp_region_quiet_below (by kernel_rfl) (by kernel_rfl) ?_
          repeat (go_big_quiet_step (exact Calls.regrown_of (HC.out _ _)))
          refine wpQuiet_nil ?_
          intro w9 hw'
          have hb9 : Below wr.heap.size wr w9 := by
            obtain ⟨⟨dq, osq⟩, rfl⟩ := hw'
            exact below_regrown wr dq osq
          have HW9 := Hid.mk (HW.out.trans (hb9.mono HW.out.size))
          clear hw' hb9 Ax0 Ay0 x0 y0 x1 y1
          go_wp2_with fail
          go_ret
          exact ⟨by rw [HN2.out]; rfl, HW9.out⟩
      · have hl2 : ¬ (k : Int) < (N : Int) := by omega
        have HF : Hid (listC spC xs ys = Pl.cmpI M N) := by show _ = _; rw [HQ.out]; exact lens_end HM.out HN.out hk hk2 (.inr hlt2)
        generalize Pl.cmpI (M : Int) (N : Int) = z at HF HL
        clear HQ HA HB
        go_wp2_with fail
        refine (HL.out _).mono ?_
        rintro e w2 ⟨rfl, hw⟩
        obtain rfl := hw.symm
        go_wp2_with fail
        go_ret
        exact ⟨by rw [HF.out]; rfl, HW.out⟩
    · have hl1 : ¬ (k : Int) < (M : Int) := by omega
      have HF : Hid (listC spC xs ys = Pl.cmpI M N) := by show _ = _; rw [HQ.out]; exact lens_end HM.out HN.out hk hk2 (.inl hlt)
      generalize Pl.cmpI (M : Int) (N : Int) = z at HF HL
      clear HQ HA HB
      go_wp2_with fail
      refine (HL.out _).mono ?_
      rintro e w2 ⟨rfl, hw⟩
      obtain rfl := hw.symm
      go_wp2_with fail
      go_ret
      exact ⟨by rw [HF.out]; rfl, HW.out⟩
end Go.Proofs.YtdjoelhiahpmlaaGreat
namespace Go.Proofs.YtdjoelhiahpmlaaGreat
open Go.RowKit Go.Shelf Go.Sort
set_option linter.unusedVariables false
set_option linter.unusedSimpArgs false
attribute [local go_sem] Oper.semAt_some


/-- the reference's Cmp, at a height -/
def RcT (h : Nat) : Prop := ∀ (A B : TT) (va vb : Value) (w : World), goodT h A → goodT h B → InT w h A va → InT w h B vb → Calls Tryz.prog 62 #[va, vb] w fun e w' => e = .returned (.int .i64 (cmpTy h A B)) ∧ Below w.heap.size w w'
theorem maxC_neg {a b : Int} (ha : -1 ≤ a ∧ a < 9223372036854775808) (hb : -1 ≤ b ∧ b < 9223372036854775808) (h : a ≠ b) (h1 : a < 0) : maxC a b = 1 := by unfold maxC uiN Pl.cmpI; rw [if_neg (by omega), if_pos (by omega)]
theorem maxC_neg2 {a b : Int} (ha : -1 ≤ a ∧ a < 9223372036854775808) (hb : -1 ≤ b ∧ b < 9223372036854775808) (h1 : ¬ a < 0) (h2 : b < 0) : maxC a b = -1 := by unfold maxC uiN Pl.cmpI; rw [if_pos (by omega)]
theorem maxC_pos {a b : Int} (ha : -1 ≤ a ∧ a < 9223372036854775808) (hb : -1 ≤ b ∧ b < 9223372036854775808) (h1 : ¬ a < 0) (h2 : ¬ b < 0) : maxC a b = Pl.cmpI a b := by
  have e1 : uiN a = a := by unfold uiN; omega
  have e2 : uiN b = b := by unfold uiN; omega
  unfold maxC; rw [e1, e2]
theorem maxC_self (a : Int) : maxC a a = 0 := by unfold maxC Pl.cmpI; rw [if_neg (by omega), if_neg (by omega)]
theorem cmpI_ne {a b : Int} (h : a ≠ b) : Pl.cmpI a b ≠ 0 := by unfold Pl.cmpI; repeat' split
                                                                all_goals omega
set_option maxRecDepth 100000 in
set_option maxHeartbeats 6400000 in
theorem w_rArrsL (h : Nat) (ih : RcT h) (ao : Option Addr) (M ac : Nat) (xs : List (AR)) (bo : Option Addr) (N bc : Nat) (ys : List (AR)) (w : World) (ha : ArIn w h ao xs) (hb : ArIn w h bo ys) (hM : xs.length = M) (hN : ys.length = N) (h1 : M ≤ ac) (h2 : N ≤ bc) (h3 : M ≤ 140737488355328) (h4 : N ≤ 140737488355328) (kx : ∀ a ∈ xs, (-1 ≤ a.max ∧ a.max < 9223372036854775808) ∧ goodT h a.item) (ky : ∀ a ∈ ys, (-1 ≤ a.max ∧ a.max < 9223372036854775808) ∧ goodT h a.item) :
    Calls Tryz.prog 75 #[.slice ao M ac, .slice bo N bc] w fun e w' => e = .returned (.int .i64 (listC (arC (cmpTy h)) xs ys)) ∧ Below w.heap.size w w' := by
  have HA := Hid.mk ha
  have HB := Hid.mk hb
  have HM := Hid.mk hM
  have HN := Hid.mk hN
  have HL := Hid.mk (fun u => w_rLens (M : Int) (N : Int) u)
  have HKX := Hid.mk kx
  have HKY := Hid.mk ky
  have HIh := Hid.mk ih
  clear kx ky ih
  clear ha hb hM hN
  go_enter Tryz.func75, Tryz.ntmps75
  go_wp2_with fail
  go_loopw [5] (fun i wr => ∃ k : Nat, k ≤ M ∧ k ≤ N ∧ i = .int .i64 (k : Int) ∧ Hid (Below w.heap.size w wr) ∧ Hid (listC (arC (cmpTy h)) xs ys = listC (arC (cmpTy h)) (xs.drop k) (ys.drop k))) (fun i _ => M - (intOf i).toNat)
  case atStart => exact ⟨0, Nat.zero_le _, Nat.zero_le _, rfl, Below.refl _ _, rfl⟩
  case round =>
    obtain ⟨k, hk, hk2, rfl, HW, HQ⟩ := hrel
    by_cases hlt : k < M
    · have hl1 : (k : Int) < (M : Int) := by omega
      have hl0 : (0 : Int) ≤ (k : Int) := by omega
      by_cases hlt2 : k < N
      · have hl2 : (k : Int) < (N : Int) := by omega
        have hka : k < xs.length := by rw [HM.out]; exact hlt
        have hkb : k < ys.length := by rw [HN.out]; exact hlt2
        have HS := Hid.mk (listC_step (c := (arC (cmpTy h))) hka hkb)
        clear HL
        obtain ⟨b1, off1, hp1, hbl1, hrow1⟩ := (HA.out.keep HW.out).row (by omega)
        subst hp1
        obtain ⟨u0, u1, u2, u3, u4', u5, u6', u7', u8', hc1, x9, x10, ht⟩ := hrow1 k hka
        obtain ⟨sa, sb, sc, sd, ⟨seo, sen, sec⟩, sf, ⟨sgo, sgn, sgc⟩, ⟨sio, sinn, sic⟩, ⟨sjo, sjn, sjc⟩, eshs⟩ := inT_shape ht
        simp only [Value.agg.injEq, Array.mk.injEq, List.cons.injEq, and_true] at eshs
        obtain ⟨rfl, rfl, rfl, rfl, rfl, rfl, rfl, rfl, rfl⟩ := eshs
        obtain ⟨b2, off2, hp2, hbl2, hrow2⟩ := (HB.out.keep HW.out).row (by omega)
        subst hp2
        obtain ⟨v0, v1, v2, v3, v4, v5, v6, v7, v8, hc2, y9, y10, hu⟩ := hrow2 k hkb
        obtain ⟨ta, tb, tc, td, ⟨teo, ten, tec⟩, tf, ⟨tgo, tgn, tgc⟩, ⟨tio, tinn, tic⟩, ⟨tjo, tjn, tjc⟩, esht⟩ := inT_shape hu
        simp only [Value.agg.injEq, Array.mk.injEq, List.cons.injEq, and_true] at esht
        obtain ⟨rfl, rfl, rfl, rfl, rfl, rfl, rfl, rfl, rfl⟩ := esht
        have gx := HKX.out _ (List.getElem_mem hka)
        have gy := HKY.out _ (List.getElem_mem hkb)
        have HC := Hid.mk (fun (d : Nat) (os : Array Obj) => (w_rLens xs[k].min ys[k].min (grow (redrawn wr d) os)).mono (fun e w' kq => (⟨kq.1, by rw [kq.2]; exact Below.refl _ _⟩ : e = .returned (.int .i64 (Pl.cmpI xs[k].min ys[k].min)) ∧ Below (grow (redrawn wr d) os).heap.size (grow (redrawn wr d) os) w')))
        have HD := Hid.mk (fun u => w_rLens xs[k].max ys[k].max u)
        have HI := Hid.mk (fun u (hu' : Below wr.heap.size wr u) => HIh.out xs[k].item ys[k].item _ _ u gx.2 gy.2 (ht.keep hu') (hu.keep hu'))
        have HXC := Hid.mk (fun u (hu' : Below wr.heap.size wr u) => (⟨(hu'.cell (p := ⟨_, _, _⟩) hbl1).trans x10, (hu'.cell (p := ⟨_, _, _⟩) hbl2).trans y10⟩ : u.cell? ⟨b1, off1 + k * 11 + 10, none⟩ = some (.int .i64 xs[k].max) ∧ u.cell? ⟨b2, off2 + k * 11 + 10, none⟩ = some (.int .i64 ys[k].max)))
        have HXT := Hid.mk (fun u (hu' : Below wr.heap.size wr u) => (⟨hc1.keep hu' hbl1, hc2.keep hu' hbl2⟩ : C9 u b1 (off1 + k * 11) (.bool sa) (.bool sb) (.bool sc) (.bool sd) (.slice seo sen sec) (.bool sf) (.slice sgo sgn sgc) (.slice sio sinn sic) (.slice sjo sjn sjc) ∧ C9 u b2 (off2 + k * 11) (.bool ta) (.bool tb) (.bool tc) (.bool td) (.slice teo ten tec) (.bool tf) (.slice tgo tgn tgc) (.slice tio tinn tic) (.slice tjo tjn tjc)))
        have HAC : Hid (arC (cmpTy h) xs[k] ys[k] = Pl.orI (Pl.orI (Pl.cmpI xs[k].min ys[k].min) (maxC xs[k].max ys[k].max)) (cmpTy h xs[k].item ys[k].item)) := rfl
        have G1 := Hid.mk gx.1
        have G2 := Hid.mk gy.1
        generalize arC (cmpTy h) xs[k] ys[k] = R at HS HAC
        generalize Pl.cmpI xs[k].min ys[k].min = m at HC HAC
        generalize cmpTy h xs[k].item ys[k].item = z at HI HAC
        generalize xs[k].min = m1 at *
        generalize ys[k].min = m2 at *
        generalize xs[k].max = n1 at *
        generalize ys[k].max = n2 at *
        clear hrow1 hrow2 hka hkb gx gy ht hu hc1 hc2 x10 y10
        have Ax9 := fun d os => cell_regrown x9 d os
        have Ay9 := fun d os => cell_regrown y9 d os
        by_cases h0 : m = 0
        · subst h0
          go_wp2_with fail
          refine wp_region_quiet_below (by kernel_rfl) (by kernel_rfl) ?_
          repeat (go_big_quiet_step (exact Calls.regrown_of (HC.out _ _)))
          refine wpQuiet_nil ?_
          intro w9 hw'
          have hbw9 : Below wr.heap.size wr w9 := by
            obtain ⟨⟨dq, osq⟩, rfl⟩ := hw'
            exact below_regrown wr dq osq
          clear hw'
          have HB9 := Hid.mk hbw9
          clear hbw9 Ax9 Ay9 x9 y9 HC
          obtain ⟨x10, y10⟩ := HXC.out w9 HB9.out
          have Ax10 := fun d os => cell_regrown x10 d os
          have Ay10 := fun d os => cell_regrown y10 d os
          by_cases hmx : n1 = n2
          · subst hmx
            have HAC2 : Hid (R = z) := by show _ = _; rw [HAC.out, maxC_self]; rfl
            clear HAC
            go_wp2_with fail
            refine wp_region_quiet_below (by kernel_rfl) (by kernel_rfl) ?_
            repeat (go_big_quiet_step (fail))
            refine wpQuiet_nil ?_
            intro w8 hw'
            have hbw8 : Below w9.heap.size w9 w8 := by
              obtain ⟨⟨dq, osq⟩, rfl⟩ := hw'
              exact below_regrown w9 dq osq
            clear hw'
            have HB8 := Hid.mk (HB9.out.trans (hbw8.mono HB9.out.size))
            have HW8 := Hid.mk (HW.out.trans (HB8.out.mono HW.out.size))
            clear hbw8 Ax10 Ay10 x10 y10
            obtain ⟨⟨p0, p1, p2, p3, p4, p5, p6, p7, p8⟩, ⟨q0, q1, q2, q3, q4, q5, q6, q7, q8⟩⟩ := HXT.out w8 HB8.out
            have Ap0 := fun d os => cell_regrown p0 d os
            have Aq0 := fun d os => cell_regrown q0 d os
            have Ap1 := fun d os => cell_regrown p1 d os
            have Aq1 := fun d os => cell_regrown q1 d os
            have Ap2 := fun d os => cell_regrown p2 d os
            have Aq2 := fun d os => cell_regrown q2 d os
            have Ap3 := fun d os => cell_regrown p3 d os
            have Aq3 := fun d os => cell_regrown q3 d os
            have Ap4 := fun d os => cell_regrown p4 d os
            have Aq4 := fun d os => cell_regrown q4 d os
            have Ap5 := fun d os => cell_regrown p5 d os
            have Aq5 := fun d os => cell_regrown q5 d os
            have Ap6 := fun d os => cell_regrown p6 d os
            have Aq6 := fun d os => cell_regrown q6 d os
            have Ap7 := fun d os => cell_regrown p7 d os
            have Aq7 := fun d os => cell_regrown q7 d os
            have Ap8 := fun d os => cell_regrown p8 d os
            have Aq8 := fun d os => cell_regrown q8 d os
            have HE := Hid.mk (fun (d : Nat) (os : Array Obj) => HI.out (grow (redrawn w8 d) os) (HB8.out.trans ((below_regrown w8 d os).mono HB8.out.size)))
            by_cases h1 : z = 0
            · have HN2 : Hid (listC (arC (cmpTy h)) xs ys = listC (arC (cmpTy h)) (xs.drop (k + 1)) (ys.drop (k + 1))) := by show _ = _; rw [HQ.out, HS.out, if_pos (HAC2.out.trans h1)]
              subst h1
              clear HS HQ HAC2
              go_wp2_with fail
              refine wp_region_quiet_below (by kernel_rfl) (by kernel_rfl) ?_
              repeat (go_big_quiet_step (exact Calls.regrown_of (HE.out _ _)))
              refine wpQuiet_nil ?_
              intro w7 hw'
              have hbw7 : Below w8.heap.size w8 w7 := by
                obtain ⟨⟨dq, osq⟩, rfl⟩ := hw'
                exact below_regrown w8 dq osq
              clear hw'
              have HW7 := Hid.mk (HW8.out.trans (hbw7.mono HW8.out.size))
              clear hbw7 Ap0 p0 Aq0 q0 Ap1 p1 Aq1 q1 Ap2 p2 Aq2 q2 Ap3 p3 Aq3 q3 Ap4 p4 Aq4 q4 Ap5 p5 Aq5 q5 Ap6 p6 Aq6 q6 Ap7 p7 Aq7 q7 Ap8 p8 Aq8 q8
              go_wp2_with fail
              go_roundw
              case rel => exact ⟨k + 1, hlt, hlt2, by go_num, HW7, HN2⟩
              case measure => simp [intOf]; omega
            · have HN2 : Hid (listC (arC (cmpTy h)) xs ys = z) := by show _ = _; rw [HQ.out, HS.out, HAC2.out, if_neg h1]
              have h1' : (z != 0) = true := by simpa using h1
              clear HS HQ HAC2 h1
              go_wp2_with fail
              refine wp_region_quiet_below (by kernel_rfl) (by kernel_rfl) ?_
              repeat (go_big_quiet_step (exact Calls.regrown_of (HE.out _ _)))
              refine wpQuiet_nil ?_
              intro w7 hw'
              have hbw7 : Below w8.heap.size w8 w7 := by
                obtain ⟨⟨dq, osq⟩, rfl⟩ := hw'
                exact below_regrown w8 dq osq
              clear hw'
              have HW7 := Hid.mk (HW8.out.trans (hbw7.mono HW8.out.size))
              clear hbw7 Ap0 p0 Aq0 q0 Ap1 p1 Aq1 q1 Ap2 p2 Aq2 q2 Ap3 p3 Aq3 q3 Ap4 p4 Aq4 q4 Ap5 p5 Aq5 q5 Ap6 p6 Aq6 q6 Ap7 p7 Aq7 q7 Ap8 p8 Aq8 q8
              go_wp2_with fail
              go_ret
              exact ⟨by rw [HN2.out]; rfl, HW7.out⟩
          · have hmx' : (n1 != n2) = true := by simpa using hmx
            by_cases hn1 : n1 < 0
            · have hRv : R = 1 := by rw [HAC.out, maxC_neg G1.out G2.out hmx hn1]; rfl
              have HN2 : Hid (listC (arC (cmpTy h)) xs ys = 1) := by show _ = _; rw [HQ.out, HS.out, hRv]; rfl
              clear hRv HAC HS HQ hmx
              go_wp2_with fail
              refine wp_region_quiet_below (by kernel_rfl) (by kernel_rfl) ?_
              repeat (go_big_quiet_step (fail))
              refine wpQuiet_nil ?_
              intro w8 hw'
              have hbw8 : Below w9.heap.size w9 w8 := by
                obtain ⟨⟨dq, osq⟩, rfl⟩ := hw'
                exact below_regrown w9 dq osq
              clear hw'
              have HB8 := Hid.mk (HB9.out.trans (hbw8.mono HB9.out.size))
              have HW8 := Hid.mk (HW.out.trans (HB8.out.mono HW.out.size))
              clear hbw8 Ax10 Ay10 x10 y10
              obtain ⟨x10, y10⟩ := HXC.out w8 HB8.out
              go_wp2_with fail
              go_ret
              exact ⟨by rw [HN2.out]; rfl, HW8.out⟩
            · by_cases hn2 : n2 < 0
              · have hRv : R = -1 := by rw [HAC.out, maxC_neg2 G1.out G2.out hn1 hn2]; rfl
                have HN2 : Hid (listC (arC (cmpTy h)) xs ys = -1) := by show _ = _; rw [HQ.out, HS.out, hRv]; rfl
                clear hRv HAC HS HQ hmx
                go_wp2_with fail
                refine wp_region_quiet_below (by kernel_rfl) (by kernel_rfl) ?_
                repeat (go_big_quiet_step (fail))
                refine wpQuiet_nil ?_
                intro w8 hw'
                have hbw8 : Below w9.heap.size w9 w8 := by
                  obtain ⟨⟨dq, osq⟩, rfl⟩ := hw'
                  exact below_regrown w9 dq osq
                clear hw'
                have HB8 := Hid.mk (HB9.out.trans (hbw8.mono HB9.out.size))
                have HW8 := Hid.mk (HW.out.trans (HB8.out.mono HW.out.size))
                clear hbw8 Ax10 Ay10 x10 y10
                obtain ⟨x10, y10⟩ := HXC.out w8 HB8.out
                go_wp2_with fail
                go_ret
                exact ⟨by rw [HN2.out]; rfl, HW8.out⟩
              · have hRv : R = Pl.cmpI n1 n2 := by rw [HAC.out, maxC_pos G1.out G2.out hn1 hn2]; show Pl.orI (Pl.cmpI n1 n2) z = _; unfold Pl.orI; rw [if_neg (cmpI_ne hmx)]
                have HN2 : Hid (listC (arC (cmpTy h)) xs ys = Pl.cmpI n1 n2) := by show _ = _; rw [HQ.out, HS.out, hRv, if_neg (cmpI_ne hmx)]
                generalize Pl.cmpI n1 n2 = y at HN2 HD
                clear hRv HAC HS HQ hmx
                go_wp2_with fail
                refine wp_region_quiet_below (by kernel_rfl) (by kernel_rfl) ?_
                repeat (go_big_quiet_step (fail))
                refine wpQuiet_nil ?_
                intro w8 hw'
                have hbw8 : Below w9.heap.size w9 w8 := by
                  obtain ⟨⟨dq, osq⟩, rfl⟩ := hw'
                  exact below_regrown w9 dq osq
                clear hw'
                have HB8 := Hid.mk (HB9.out.trans (hbw8.mono HB9.out.size))
                have HW8 := Hid.mk (HW.out.trans (HB8.out.mono HW.out.size))
                clear hbw8 Ax10 Ay10 x10 y10
                obtain ⟨x10, y10⟩ := HXC.out w8 HB8.out
                have Ax10 := fun d os => cell_regrown x10 d os
                have Ay10 := fun d os => cell_regrown y10 d os
                have HE := Hid.mk (fun (d : Nat) (os : Array Obj) => (HD.out (grow (redrawn w8 d) os)).mono (fun e w' kq => (⟨kq.1, by rw [kq.2]; exact Below.refl _ _⟩ : e = .returned (.int .i64 (y)) ∧ Below (grow (redrawn w8 d) os).heap.size (grow (redrawn w8 d) os) w')))
                go_wp2_with fail
                refine wp_region_quiet_below (by kernel_rfl) (by kernel_rfl) ?_
                repeat (go_big_quiet_step (exact Calls.regrown_of (HE.out _ _)))
                refine wpQuiet_nil ?_
                intro w7 hw'
                have hbw7 : Below w8.heap.size w8 w7 := by
                  obtain ⟨⟨dq, osq⟩, rfl⟩ := hw'
                  exact below_regrown w8 dq osq
                clear hw'
                have HW7 := Hid.mk (HW8.out.trans (hbw7.mono HW8.out.size))
                clear hbw7 Ax10 Ay10 x10 y10
                go_wp2_with fail
                go_ret
                exact ⟨by rw [HN2.out]; rfl, HW7.out⟩
        · have hRv : R = m := by rw [HAC.out]; unfold Pl.orI; simp [h0]
          have HN2 : Hid (listC (arC (cmpTy h)) xs ys = m) := by show _ = _; rw [HQ.out, HS.out, hRv, if_neg h0]
          have h0' : (m == 0) = false := by simpa using h0
          have h0'' : (m != 0) = true := by simpa using h0
          clear hRv HAC HS HQ h0
          go_wp2_with fail
          refine wp_region_quiet_below (by kernel_rfl) (by kernel_rfl) ?_
          repeat (go_big_quiet_step (exact Calls.regrown_of (HC.out _ _)))
          refine wpQuiet_nil ?_
          intro w9 hw'
          have hbw9 : Below wr.heap.size wr w9 := by
            obtain ⟨⟨dq, osq⟩, rfl⟩ := hw'
            exact below_regrown wr dq osq
          clear hw'
          have HB9 := Hid.mk hbw9
          clear hbw9 Ax9 Ay9 x9 y9 HC
          obtain ⟨x10, y10⟩ := HXC.out w9 HB9.out
          have Ax10 := fun d os => cell_regrown x10 d os
          have Ay10 := fun d os => cell_regrown y10 d os
          go_wp2_with fail
          refine wp_region_quiet_below (by kernel_rfl) (by kernel_rfl) ?_
          repeat (go_big_quiet_step (fail))
          refine wpQuiet_nil ?_
          intro w8 hw'
          have hbw8 : Below w9.heap.size w9 w8 := by
            obtain ⟨⟨dq, osq⟩, rfl⟩ := hw'
            exact below_regrown w9 dq osq
          clear hw'
          have HB8 := Hid.mk (HB9.out.trans (hbw8.mono HB9.out.size))
          have HW8 := Hid.mk (HW.out.trans (HB8.out.mono HW.out.size))
          clear hbw8 Ax10 Ay10 x10 y10
          go_wp2_with fail
          go_ret
          exact ⟨by rw [HN2.out]; rfl, HW8.out⟩
      · have hl2 : ¬ (k : Int) < (N : Int) := by omega
        have HF : Hid (listC (arC (cmpTy h)) xs ys = Pl.cmpI M N) := by show _ = _; rw [HQ.out]; exact lens_end HM.out HN.out hk hk2 (.inr hlt2)
        generalize Pl.cmpI (M : Int) (N : Int) = z at HF HL
        clear HQ HA HB
        go_wp2_with fail
        refine (HL.out _).mono ?_
        rintro e w2 ⟨rfl, hw⟩
        obtain rfl := hw.symm
        go_wp2_with fail
        go_ret
        exact ⟨by rw [HF.out]; rfl, HW.out⟩
    · have hl1 : ¬ (k : Int) < (M : Int) := by omega
      have HF : Hid (listC (arC (cmpTy h)) xs ys = Pl.cmpI M N) := by show _ = _; rw [HQ.out]; exact lens_end HM.out HN.out hk hk2 (.inl hlt)
      generalize Pl.cmpI (M : Int) (N : Int) = z at HF HL
      clear HQ HA HB
      go_wp2_with fail
      refine (HL.out _).mono ?_
      rintro e w2 ⟨rfl, hw⟩
      obtain rfl := hw.symm
      go_wp2_with fail
      go_ret
      exact ⟨by rw [HF.out]; rfl, HW.out⟩
end Go.Proofs.YtdjoelhiahpmlaaGreat
namespace Go.Proofs.YtdjoelhiahpmlaaGreat
open Go.RowKit Go.Shelf Go.Sort
set_option linter.unusedVariables false
set_option linter.unusedSimpArgs false
attribute [local go_sem] Oper.semAt_some


set_option maxRecDepth 100000 in
set_option maxHeartbeats 12800000 in
theorem w_rObj (h : Nat) (ih : RcT h) (a b : OB) (ko fo mo lo go po : Option Addr) (kc fc mc lc gc pc : Nat) (c0 c1 c2 c3 c4 c5 c6 c7 c8 d0 d1 d2 d3 d4 d5 d6 d7 d8 : Value) (w : World) (ha : InO w h a ko kc fo fc mo mc c0 c1 c2 c3 c4 c5 c6 c7 c8) (hb : InO w h b lo lc go gc po pc d0 d1 d2 d3 d4 d5 d6 d7 d8)
    (ga : (a.names.length = a.fields.length ∧ a.names.length = a.must.length) ∧ (∀ f ∈ a.fields, goodT h f) ∧ goodT h a.rest) (gb : (b.names.length = b.fields.length ∧ b.names.length = b.must.length) ∧ (∀ f ∈ b.fields, goodT h f) ∧ goodT h b.rest) :
    Calls Tryz.prog 81 #[.agg #[.slice ko a.names.length kc, .slice fo a.fields.length fc, .slice mo a.must.length mc, c0, c1, c2, c3, c4, c5, c6, c7, c8], .agg #[.slice lo b.names.length lc, .slice go b.fields.length gc, .slice po b.must.length pc, d0, d1, d2, d3, d4, d5, d6, d7, d8]] w fun e w' => e = .returned (.int .i64 (obC (cmpTy h) a b)) ∧ Below w.heap.size w w' := by
  have HR1 := Hid.mk (fun u (hu : Below w.heap.size w u) => ih a.rest b.rest _ _ u ga.2.2 gb.2.2 (ha.rest.keep hu) (hb.rest.keep hu))
  have HN1 := Hid.mk (fun u (hu : Below w.heap.size w u) => w_rTextsL ko _ kc a.names lo _ lc b.names u (ha.nm.keep hu) (hb.nm.keep hu) rfl rfl ha.caps.1 hb.caps.1 ha.lens.1 hb.lens.1)
  have HMA := Hid.mk (fun u (hu : Below w.heap.size w u) => ha.ms.keep hu)
  have HMB := Hid.mk (fun u (hu : Below w.heap.size w u) => hb.ms.keep hu)
  have HFA := Hid.mk (fun u (hu : Below w.heap.size w u) => (⟨(ha.keep hu).fd⟩ : TyIn u h fo a.fields))
  have HFB := Hid.mk (fun u (hu : Below w.heap.size w u) => (⟨(hb.keep hu).fd⟩ : TyIn u h go b.fields))
  have HIF := Hid.mk (fun (i : Nat) (h1 : i < a.fields.length) (h2 : i < b.fields.length) (va vb : Value) (u : World) (k1 : InT u h a.fields[i] va) (k2 : InT u h b.fields[i] vb) => ih a.fields[i] b.fields[i] va vb u (ga.2.1 _ (List.getElem_mem h1)) (gb.2.1 _ (List.getElem_mem h2)) k1 k2)
  have har := ha.rest
  have hbr := hb.rest
  have hl1 := ha.lens.1
  have hl2 := hb.lens.1
  obtain ⟨sa, sb, sc, sd, ⟨seo, sen, sec⟩, sf, ⟨sgo, sgn, sgc⟩, ⟨sio, sinn, sic⟩, ⟨sjo, sjn, sjc⟩, eshs⟩ := inT_shape har
  simp only [Value.agg.injEq, Array.mk.injEq, List.cons.injEq, and_true] at eshs
  obtain ⟨rfl, rfl, rfl, rfl, rfl, rfl, rfl, rfl, rfl⟩ := eshs
  obtain ⟨ta, tb, tc, td, ⟨teo, ten, tec⟩, tf, ⟨tgo, tgn, tgc⟩, ⟨tio, tinn, tic⟩, ⟨tjo, tjn, tjc⟩, esht⟩ := inT_shape hbr
  simp only [Value.agg.injEq, Array.mk.injEq, List.cons.injEq, and_true] at esht
  obtain ⟨rfl, rfl, rfl, rfl, rfl, rfl, rfl, rfl, rfl⟩ := esht
  have HG : Hid (obC (cmpTy h) a b = Pl.orI (Pl.orI (listC keyC a.names b.names) (listC setC a.must b.must)) (Pl.orI (listC (cmpTy h) a.fields b.fields) (cmpTy h a.rest b.rest))) := rfl
  have HEQ : Hid (listC keyC a.names b.names = 0 → a.names.length = b.names.length) := fun e => by rw [(listC_ord keyC_ord).zr _ _ (fun _ _ => trivial) (fun _ _ => trivial) e]
  obtain ⟨R, hR⟩ : ∃ R, obC (cmpTy h) a b = R := ⟨_, rfl⟩
  rw [hR] at HG ⊢
  obtain ⟨xs, hxs⟩ : ∃ xs, a.must = xs := ⟨_, rfl⟩
  obtain ⟨ys, hys⟩ : ∃ ys, b.must = ys := ⟨_, rfl⟩
  obtain ⟨fs, hfs⟩ : ∃ fs, a.fields = fs := ⟨_, rfl⟩
  obtain ⟨gs, hgs⟩ : ∃ gs, b.fields = gs := ⟨_, rfl⟩
  have hp1 := ga.1.1
  have hp2 := ga.1.2
  have hp3 := gb.1.1
  have hp4 := gb.1.2
  rw [← hp1, ← hp2, ← hp3, ← hp4]
  simp only [hxs, hys, hfs, hgs] at *
  generalize cmpTy h a.rest b.rest = z at HR1 HG
  generalize listC keyC a.names b.names = x at HN1 HG HEQ
  obtain ⟨K1, hK1⟩ : ∃ K, a.names.length = K := ⟨_, rfl⟩
  obtain ⟨K2, hK2⟩ : ∃ K, b.names.length = K := ⟨_, rfl⟩
  rw [hK1] at HN1 HEQ hp1 hp2 hl1 ⊢
  rw [hK2] at HN1 HEQ hp3 hp4 hl2 ⊢
  have HL1 := Hid.mk hp2
  have HL2 := Hid.mk hp4
  have HL3 := Hid.mk hp1
  have HL4 := Hid.mk hp3
  clear ha hb har hbr hR ih ga gb hxs hys hfs hgs hp1 hp2 hp3 hp4 hK1 hK2
  have HX := Hid.mk (bx2_new w #[.slice ko K1 kc, .slice fo K1 fc, .slice mo K1 mc, .bool sa, .bool sb, .bool sc, .bool sd, .slice seo sen sec, .bool sf, .slice sgo sgn sgc, .slice sio sinn sic, .slice sjo sjn sjc] #[.slice lo K2 lc, .slice go K2 gc, .slice po K2 pc, .bool ta, .bool tb, .bool tc, .bool td, .slice teo ten tec, .bool tf, .slice tgo tgn tgc, .slice tio tinn tic, .slice tjo tjn tjc] 63)
  obtain ⟨W0, hW0⟩ : ∃ W0, (w.alloc (.cells #[.slice ko K1 kc, .slice fo K1 fc, .slice mo K1 mc, .bool sa, .bool sb, .bool sc, .bool sd, .slice seo sen sec, .bool sf, .slice sgo sgn sgc, .slice sio sinn sic, .slice sjo sjn sjc] 63)).alloc (.cells #[.slice lo K2 lc, .slice go K2 gc, .slice po K2 pc, .bool ta, .bool tb, .bool tc, .bool td, .slice teo ten tec, .bool tf, .slice tgo tgn tgc, .slice tio tinn tic, .slice tjo tjn tjc] 63) = W0 := ⟨_, rfl⟩
  rw [hW0] at HX
  have p0 : W0.cell? ⟨w.heap.size, 0, none⟩ = some (.slice ko K1 kc) := HX.out.one 0
  have q0 : W0.cell? ⟨w.heap.size + 1, 0, none⟩ = some (.slice lo K2 lc) := HX.out.two 0
  go_enter Tryz.func81, Tryz.ntmps81
  go_wp2_with fail
  refine (HN1.out _ HX.out.below).mono ?_
  rintro e w1 ⟨rfl, hq⟩
  have HY := Hid.mk (HX.out.keep hq)
  clear hq hW0 HX p0 q0 HN1
  by_cases hx : x = 0
  · subst hx
    obtain rfl := HEQ.out rfl
    have HG2 : Hid (R = Pl.orI (listC setC xs ys) (Pl.orI (listC (cmpTy h) fs gs) z)) := HG.out
    clear HG HEQ
    go_wp2_with fail
    go_loopw [5, 6] (fun c i wr => ∃ (k : Nat) (cv : Int), k ≤ K1 ∧ c = .int .i64 cv ∧ i = .int .i64 (k : Int) ∧ Hid (Bx2 w wr #[.slice ko K1 kc, .slice fo K1 fc, .slice mo K1 mc, .bool sa, .bool sb, .bool sc, .bool sd, .slice seo sen sec, .bool sf, .slice sgo sgn sgc, .slice sio sinn sic, .slice sjo sjn sjc] #[.slice lo K1 lc, .slice go K1 gc, .slice po K1 pc, .bool ta, .bool tb, .bool tc, .bool td, .slice teo ten tec, .bool tf, .slice tgo tgn tgc, .slice tio tinn tic, .slice tjo tjn tjc]) ∧ Hid ((cv = 0 ∧ listC setC xs ys = listC setC (xs.drop k) (ys.drop k)) ∨ (cv ≠ 0 ∧ listC setC xs ys = cv))) (fun _ i _ => K1 - (intOf i).toNat)
    case atStart => exact ⟨0, 0, Nat.zero_le _, rfl, rfl, HY, .inl ⟨rfl, rfl⟩⟩
    case round =>
      obtain ⟨k, cv, hk, rfl, rfl, HX, HQ⟩ := hrel
      have p2 : wr.cell? ⟨w.heap.size, 2, none⟩ = some (.slice mo K1 mc) := HX.out.one 2
      have q2 : wr.cell? ⟨w.heap.size + 1, 2, none⟩ = some (.slice po K1 pc) := HX.out.two 2
      by_cases hc : cv = 0
      · subst hc
        have HQ' : Hid (listC setC xs ys = listC setC (xs.drop k) (ys.drop k)) := by
          rcases HQ.out with hh | hh
          · exact hh.2
          · exact absurd rfl hh.1
        clear HQ
        by_cases hlt : k < K1
        · have g1 : (k : Int) < (K1 : Int) := by omega
          have g0 : (0 : Int) ≤ (k : Int) := by omega
          have hka : k < xs.length := by rw [← HL1.out]; exact hlt
          have hkb : k < ys.length := by rw [← HL2.out]; exact hlt
          obtain ⟨b1, off1, hq1, hbl1, hrow1⟩ := (HMA.out wr HX.out.below).row (by omega)
          subst hq1
          obtain ⟨b2, off2, hq2, hbl2, hrow2⟩ := (HMB.out wr HX.out.below).row (by omega)
          subst hq2
          have x0 := hrow1 k hka
          have y0 := hrow2 k hkb
          have HS := Hid.mk (listC_step (c := setC) hka hkb)
          have HC := Hid.mk (fun (d : Nat) (os : Array Obj) => (w_rTruth xs[k] ys[k] (grow (redrawn wr d) os)).mono (fun e w' kq => (⟨kq.1, by rw [kq.2]; exact Below.refl _ _⟩ : e = .returned (.int .i64 (setC xs[k] ys[k])) ∧ Below (grow (redrawn wr d) os).heap.size (grow (redrawn wr d) os) w')))
          generalize setC xs[k] ys[k] = c at HC HS
          generalize xs[k] = e1 at *
          generalize ys[k] = e2 at *
          have HN2 : Hid ((c = 0 ∧ listC setC xs ys = listC setC (xs.drop (k + 1)) (ys.drop (k + 1))) ∨ (c ≠ 0 ∧ listC setC xs ys = c)) := by
            by_cases h0 : c = 0
            · exact .inl ⟨h0, by rw [HQ'.out, HS.out, if_pos h0]⟩
            · exact .inr ⟨h0, by rw [HQ'.out, HS.out, if_neg h0]⟩
          clear hrow1 hrow2 hka hkb HS HQ'
          have Ax0 := fun d os => cell_regrown x0 d os
          have Ay0 := fun d os => cell_regrown y0 d os
          have Ap2 := fun d os => cell_regrown p2 d os
          have Aq2 := fun d os => cell_regrown q2 d os
          go_wp2_with fail
          refine wp_region_quiet_below (by kernel_rfl) (by kernel_rfl) ?_
          repeat (go_big_quiet_step (exact Calls.regrown_of (HC.out _ _)))
          refine wpQuiet_nil ?_
          intro w9 hw'
          have hb9 : Below wr.heap.size wr w9 := by
            obtain ⟨⟨dq, osq⟩, rfl⟩ := hw'
            exact below_regrown wr dq osq
          have HX9 := Hid.mk (HX.out.keep hb9)
          clear hw' hb9 Ax0 Ay0 x0 y0 p2 q2 Ap2 Aq2
          go_wp2_with fail
          go_roundw
          case rel => exact ⟨k + 1, c, hlt, rfl, by go_num, HX9, HN2⟩
          case measure => simp [intOf]; omega
        · have g1 : ¬ (k : Int) < (K1 : Int) := by omega
          have hm0 : listC setC xs ys = 0 := by rw [HQ'.out]; exact listC_even (by have := HL1.out; omega) (by have := HL2.out; omega)
          have HG3 : Hid (R = Pl.orI (listC (cmpTy h) fs gs) z) := by show _ = _; rw [HG2.out, hm0]; rfl
          clear HG2 hm0 HQ'
          go_wp2_with fail
          go_loopw [5, 7] (fun c i wr => ∃ (k : Nat) (cv : Int), k ≤ K1 ∧ c = .int .i64 cv ∧ i = .int .i64 (k : Int) ∧ Hid (Bx2 w wr #[.slice ko K1 kc, .slice fo K1 fc, .slice mo K1 mc, .bool sa, .bool sb, .bool sc, .bool sd, .slice seo sen sec, .bool sf, .slice sgo sgn sgc, .slice sio sinn sic, .slice sjo sjn sjc] #[.slice lo K1 lc, .slice go K1 gc, .slice po K1 pc, .bool ta, .bool tb, .bool tc, .bool td, .slice teo ten tec, .bool tf, .slice tgo tgn tgc, .slice tio tinn tic, .slice tjo tjn tjc]) ∧ Hid ((cv = 0 ∧ listC (cmpTy h) fs gs = listC (cmpTy h) (fs.drop k) (gs.drop k)) ∨ (cv ≠ 0 ∧ listC (cmpTy h) fs gs = cv))) (fun _ i _ => K1 - (intOf i).toNat)
          case atStart => exact ⟨0, 0, Nat.zero_le _, rfl, rfl, HX, .inl ⟨rfl, rfl⟩⟩
          case round =>
            clear p2 q2 g1 hlt hk HX
            obtain ⟨j, cv, hk, rfl, rfl, HX, HQ⟩ := hrel
            have p1 : wr.cell? ⟨w.heap.size, 1, none⟩ = some (.slice fo K1 fc) := HX.out.one 1
            have q1 : wr.cell? ⟨w.heap.size + 1, 1, none⟩ = some (.slice go K1 gc) := HX.out.two 1
            by_cases hc : cv = 0
            · subst hc
              have HQ' : Hid (listC (cmpTy h) fs gs = listC (cmpTy h) (fs.drop j) (gs.drop j)) := by
                rcases HQ.out with hh | hh
                · exact hh.2
                · exact absurd rfl hh.1
              clear HQ
              by_cases hlt : j < K1
              · have g1 : (j : Int) < (K1 : Int) := by omega
                have g0 : (0 : Int) ≤ (j : Int) := by omega
                have hka : j < fs.length := by rw [← HL3.out]; exact hlt
                have hkb : j < gs.length := by rw [← HL4.out]; exact hlt
                obtain ⟨b1, off1, hq1, hbl1, hrow1⟩ := (HFA.out wr HX.out.below).row (by omega)
                subst hq1
                obtain ⟨b2, off2, hq2, hbl2, hrow2⟩ := (HFB.out wr HX.out.below).row (by omega)
                subst hq2
                obtain ⟨u0', u1', u2', u3', u4', u5', u6', u7', u8', ⟨x0, x1, x2, x3, x4, x5, x6, x7, x8⟩, ht⟩ := hrow1 j hka
                obtain ⟨v0', v1', v2', v3', v4', v5', v6', v7', v8', ⟨y0, y1, y2, y3, y4, y5, y6, y7, y8⟩, hu⟩ := hrow2 j hkb
                obtain ⟨xxa, xxb, xxc, xxd, ⟨xxeo, xxen, xxec⟩, xxf, ⟨xxgo, xxgn, xxgc⟩, ⟨xxio, xxinn, xxic⟩, ⟨xxjo, xxjn, xxjc⟩, eshxx⟩ := inT_shape ht
                simp only [Value.agg.injEq, Array.mk.injEq, List.cons.injEq, and_true] at eshxx
                obtain ⟨rfl, rfl, rfl, rfl, rfl, rfl, rfl, rfl, rfl⟩ := eshxx
                obtain ⟨yya, yyb, yyc, yyd, ⟨yyeo, yyen, yyec⟩, yyf, ⟨yygo, yygn, yygc⟩, ⟨yyio, yyinn, yyic⟩, ⟨yyjo, yyjn, yyjc⟩, eshyy⟩ := inT_shape hu
                simp only [Value.agg.injEq, Array.mk.injEq, List.cons.injEq, and_true] at eshyy
                obtain ⟨rfl, rfl, rfl, rfl, rfl, rfl, rfl, rfl, rfl⟩ := eshyy
                have HS := Hid.mk (listC_step (c := cmpTy h) hka hkb)
                have HC := Hid.mk (fun (d : Nat) (os : Array Obj) => HIF.out j hka hkb _ _ (grow (redrawn wr d) os) (ht.keep (below_regrown wr d os)) (hu.keep (below_regrown wr d os)))
                generalize cmpTy h fs[j] gs[j] = c at HC HS
                have HN2 : Hid ((c = 0 ∧ listC (cmpTy h) fs gs = listC (cmpTy h) (fs.drop (j + 1)) (gs.drop (j + 1))) ∨ (c ≠ 0 ∧ listC (cmpTy h) fs gs = c)) := by
                  by_cases h0 : c = 0
                  · exact .inl ⟨h0, by rw [HQ'.out, HS.out, if_pos h0]⟩
                  · exact .inr ⟨h0, by rw [HQ'.out, HS.out, if_neg h0]⟩
                clear hrow1 hrow2 hka hkb HS HQ' ht hu
                have Ax0 := fun d os => cell_regrown x0 d os
                have Ay0 := fun d os => cell_regrown y0 d os
                have Ax1 := fun d os => cell_regrown x1 d os
                have Ay1 := fun d os => cell_regrown y1 d os
                have Ax2 := fun d os => cell_regrown x2 d os
                have Ay2 := fun d os => cell_regrown y2 d os
                have Ax3 := fun d os => cell_regrown x3 d os
                have Ay3 := fun d os => cell_regrown y3 d os
                have Ax4 := fun d os => cell_regrown x4 d os
                have Ay4 := fun d os => cell_regrown y4 d os
                have Ax5 := fun d os => cell_regrown x5 d os
                have Ay5 := fun d os => cell_regrown y5 d os
                have Ax6 := fun d os => cell_regrown x6 d os
                have Ay6 := fun d os => cell_regrown y6 d os
                have Ax7 := fun d os => cell_regrown x7 d os
                have Ay7 := fun d os => cell_regrown y7 d os
                have Ax8 := fun d os => cell_regrown x8 d os
                have Ay8 := fun d os => cell_regrown y8 d os
                have Ap1 := fun d os => cell_regrown p1 d os
                have Aq1 := fun d os => cell_regrown q1 d os
                go_wp2_with fail
                refine wp_region_quiet_below (by kernel_rfl) (by kernel_rfl) ?_
                repeat (go_big_quiet_step (exact Calls.regrown_of (HC.out _ _)))
                refine wpQuiet_nil ?_
                intro w9 hw'
                have hb9 : Below wr.heap.size wr w9 := by
                  obtain ⟨⟨dq, osq⟩, rfl⟩ := hw'
                  exact below_regrown wr dq osq
                have HX9 := Hid.mk (HX.out.keep hb9)
                clear hw' hb9 Ax0 x0 Ay0 y0 Ax1 x1 Ay1 y1 Ax2 x2 Ay2 y2 Ax3 x3 Ay3 y3 Ax4 x4 Ay4 y4 Ax5 x5 Ay5 y5 Ax6 x6 Ay6 y6 Ax7 x7 Ay7 y7 Ax8 x8 Ay8 y8 p1 q1 Ap1 Aq1
                go_wp2_with fail
                go_roundw
                case rel => exact ⟨j + 1, c, hlt, rfl, by go_num, HX9, HN2⟩
                case measure => simp [intOf]; omega
              · have g1 : ¬ (j : Int) < (K1 : Int) := by omega
                have hm0 : listC (cmpTy h) fs gs = 0 := by rw [HQ'.out]; exact listC_even (by have := HL3.out; omega) (by have := HL4.out; omega)
                have HN : Hid (R = z) := by show _ = _; rw [HG3.out, hm0]; rfl
                clear HG3 hm0 HQ'
                have p3 : wr.cell? ⟨w.heap.size, 3, none⟩ = some (.bool sa) := HX.out.one 3
                have q3 : wr.cell? ⟨w.heap.size + 1, 3, none⟩ = some (.bool ta) := HX.out.two 3
                have p4 : wr.cell? ⟨w.heap.size, 4, none⟩ = some (.bool sb) := HX.out.one 4
                have q4 : wr.cell? ⟨w.heap.size + 1, 4, none⟩ = some (.bool tb) := HX.out.two 4
                have p5 : wr.cell? ⟨w.heap.size, 5, none⟩ = some (.bool sc) := HX.out.one 5
                have q5 : wr.cell? ⟨w.heap.size + 1, 5, none⟩ = some (.bool tc) := HX.out.two 5
                have p6 : wr.cell? ⟨w.heap.size, 6, none⟩ = some (.bool sd) := HX.out.one 6
                have q6 : wr.cell? ⟨w.heap.size + 1, 6, none⟩ = some (.bool td) := HX.out.two 6
                have p7 : wr.cell? ⟨w.heap.size, 7, none⟩ = some (.slice seo sen sec) := HX.out.one 7
                have q7 : wr.cell? ⟨w.heap.size + 1, 7, none⟩ = some (.slice teo ten tec) := HX.out.two 7
                have p8 : wr.cell? ⟨w.heap.size, 8, none⟩ = some (.bool sf) := HX.out.one 8
                have q8 : wr.cell? ⟨w.heap.size + 1, 8, none⟩ = some (.bool tf) := HX.out.two 8
                have p9 : wr.cell? ⟨w.heap.size, 9, none⟩ = some (.slice sgo sgn sgc) := HX.out.one 9
                have q9 : wr.cell? ⟨w.heap.size + 1, 9, none⟩ = some (.slice tgo tgn tgc) := HX.out.two 9
                have p10 : wr.cell? ⟨w.heap.size, 10, none⟩ = some (.slice sio sinn sic) := HX.out.one 10
                have q10 : wr.cell? ⟨w.heap.size + 1, 10, none⟩ = some (.slice tio tinn tic) := HX.out.two 10
                have p11 : wr.cell? ⟨w.heap.size, 11, none⟩ = some (.slice sjo sjn sjc) := HX.out.one 11
                have q11 : wr.cell? ⟨w.heap.size + 1, 11, none⟩ = some (.slice tjo tjn tjc) := HX.out.two 11
                go_wp2_with fail
                refine (HR1.out _ HX.out.below).mono ?_
                rintro e w3 ⟨rfl, hb3⟩
                have HZ := Hid.mk (HX.out.keep hb3)
                clear hb3 p3 q3 p4 q4 p5 q5 p6 q6 p7 q7 p8 q8 p9 q9 p10 q10 p11 q11
                go_wp2_with fail
                go_ret
                exact ⟨by rw [HN.out]; rfl, HZ.out.below⟩
            · have hv : listC (cmpTy h) fs gs = cv := by
                rcases HQ.out with hh | hh
                · exact absurd hh.1 hc
                · exact hh.2
              have HN : Hid (R = cv) := by show _ = _; rw [HG3.out, hv]; unfold Pl.orI; rw [if_neg hc]
              have hc' : (cv == 0) = false := by simpa using hc
              clear hv HQ HG3 hc
              by_cases hlt : j < K1
              · have g1 : (j : Int) < (K1 : Int) := by omega
                go_wp2_with fail
                go_ret
                exact ⟨by rw [HN.out]; rfl, HX.out.below⟩
              · have g1 : ¬ (j : Int) < (K1 : Int) := by omega
                go_wp2_with fail
                go_ret
                exact ⟨by rw [HN.out]; rfl, HX.out.below⟩
      · have hv : listC setC xs ys = cv := by
          rcases HQ.out with hh | hh
          · exact absurd hh.1 hc
          · exact hh.2
        have HN : Hid (R = cv) := by show _ = _; rw [HG2.out, hv]; unfold Pl.orI; rw [if_neg hc]
        have hc' : (cv == 0) = false := by simpa using hc
        clear hv HQ HG2 hc
        have p1 : wr.cell? ⟨w.heap.size, 1, none⟩ = some (.slice fo K1 fc) := HX.out.one 1
        have q1 : wr.cell? ⟨w.heap.size + 1, 1, none⟩ = some (.slice go K1 gc) := HX.out.two 1
        by_cases hK : 0 < K1
        · have gK : (0 : Int) < (K1 : Int) := by omega
          by_cases hlt : k < K1
          · have g1 : (k : Int) < (K1 : Int) := by omega
            go_wp2_with fail
            refine wp_loop_rounds 1 ?_
            rw [rounds_succ]
            go_wp2_with fail
            go_ret
            exact ⟨by rw [HN.out]; rfl, HX.out.below⟩
          · have g1 : ¬ (k : Int) < (K1 : Int) := by omega
            go_wp2_with fail
            refine wp_loop_rounds 1 ?_
            rw [rounds_succ]
            go_wp2_with fail
            go_ret
            exact ⟨by rw [HN.out]; rfl, HX.out.below⟩
        · have gK : ¬ (0 : Int) < (K1 : Int) := by omega
          have g1 : ¬ (k : Int) < (K1 : Int) := by omega
          have hk0 : k = 0 := by omega
          go_wp2_with fail
          refine wp_loop_rounds 1 ?_
          rw [rounds_succ]
          go_wp2_with fail
          go_ret
          exact ⟨by rw [HN.out]; rfl, HX.out.below⟩
  · have HN : Hid (R = x) := by show _ = _; rw [HG.out]; unfold Pl.orI; simp [hx]
    have hc' : (x == 0) = false := by simpa using hx
    clear HG HEQ hx
    have p1 : w1.cell? ⟨w.heap.size, 1, none⟩ = some (.slice fo K1 fc) := HY.out.one 1
    have q1 : w1.cell? ⟨w.heap.size + 1, 1, none⟩ = some (.slice go K2 gc) := HY.out.two 1
    have p2 : w1.cell? ⟨w.heap.size, 2, none⟩ = some (.slice mo K1 mc) := HY.out.one 2
    have q2 : w1.cell? ⟨w.heap.size + 1, 2, none⟩ = some (.slice po K2 pc) := HY.out.two 2
    by_cases hK : 0 < K1
    · have gK : (0 : Int) < (K1 : Int) := by omega
      by_cases hK2 : 0 < K2
      · have gK2 : (0 : Int) < (K2 : Int) := by omega
        go_wp2_with fail
        refine wp_loop_rounds 1 ?_
        rw [rounds_succ]
        go_wp2_with fail
        refine wp_loop_rounds 1 ?_
        rw [rounds_succ]
        go_wp2_with fail
        go_ret
        exact ⟨by rw [HN.out]; rfl, HY.out.below⟩
      · have gK2 : ¬ (0 : Int) < (K2 : Int) := by omega
        go_wp2_with fail
        refine wp_loop_rounds 1 ?_
        rw [rounds_succ]
        go_wp2_with fail
        refine wp_loop_rounds 1 ?_
        rw [rounds_succ]
        go_wp2_with fail
        go_ret
        exact ⟨by rw [HN.out]; rfl, HY.out.below⟩
    · have gK : ¬ (0 : Int) < (K1 : Int) := by omega
      go_wp2_with fail
      refine wp_loop_rounds 1 ?_
      rw [rounds_succ]
      go_wp2_with fail
      refine wp_loop_rounds 1 ?_
      rw [rounds_succ]
      go_wp2_with fail
      go_ret
      exact ⟨by rw [HN.out]; rfl, HY.out.below⟩
end Go.Proofs.YtdjoelhiahpmlaaGreat
namespace Go.Proofs.YtdjoelhiahpmlaaGreat
open Go.RowKit Go.Shelf Go.Sort
set_option linter.unusedVariables false
set_option linter.unusedSimpArgs false
attribute [local go_sem] Oper.semAt_some

set_option maxRecDepth 100000 in
set_option maxHeartbeats 6400000 in
theorem w_rObjsL (h : Nat) (ih : RcT h) (ao : Option Addr) (M ac : Nat) (xs : List (OB)) (bo : Option Addr) (N bc : Nat) (ys : List (OB)) (w : World) (ha : ObIn w h ao xs) (hb : ObIn w h bo ys) (hM : xs.length = M) (hN : ys.length = N) (h1 : M ≤ ac) (h2 : N ≤ bc) (h3 : M ≤ 140737488355328) (h4 : N ≤ 140737488355328) (kx : ∀ o ∈ xs, (o.names.length = o.fields.length ∧ o.names.length = o.must.length) ∧ (∀ f ∈ o.fields, goodT h f) ∧ goodT h o.rest) (ky : ∀ o ∈ ys, (o.names.length = o.fields.length ∧ o.names.length = o.must.length) ∧ (∀ f ∈ o.fields, goodT h f) ∧ goodT h o.rest) :
    Calls Tryz.prog 76 #[.slice ao M ac, .slice bo N bc] w fun e w' => e = .returned (.int .i64 (listC (obC (cmpTy h)) xs ys)) ∧ Below w.heap.size w w' := by
  have HA := Hid.mk ha
  have HB := Hid.mk hb
  have HM := Hid.mk hM
  have HN := Hid.mk hN
  have HL := Hid.mk (fun u => w_rLens (M : Int) (N : Int) u)
  have HKX := Hid.mk kx
  have HKY := Hid.mk ky
  have HIh := Hid.mk ih
  clear kx ky ih
  clear ha hb hM hN
  go_enter Tryz.func76, Tryz.ntmps76
  go_wp2_with fail
  go_loopw [5] (fun i wr => ∃ k : Nat, k ≤ M ∧ k ≤ N ∧ i = .int .i64 (k : Int) ∧ Hid (Below w.heap.size w wr) ∧ Hid (listC (obC (cmpTy h)) xs ys = listC (obC (cmpTy h)) (xs.drop k) (ys.drop k))) (fun i _ => M - (intOf i).toNat)
  case atStart => exact ⟨0, Nat.zero_le _, Nat.zero_le _, rfl, Below.refl _ _, rfl⟩
  case round =>
    obtain ⟨k, hk, hk2, rfl, HW, HQ⟩ := hrel
    by_cases hlt : k < M
    · have hl1 : (k : Int) < (M : Int) := by omega
      have hl0 : (0 : Int) ≤ (k : Int) := by omega
      by_cases hlt2 : k < N
      · have hl2 : (k : Int) < (N : Int) := by omega
        have hka : k < xs.length := by rw [HM.out]; exact hlt
        have hkb : k < ys.length := by rw [HN.out]; exact hlt2
        have HS := Hid.mk (listC_step (c := (obC (cmpTy h))) hka hkb)
        clear HL
        obtain ⟨b1, off1, hp1, hbl1, hrow1⟩ := (HA.out.keep HW.out).row (by omega)
        subst hp1
        obtain ⟨ko, kc, fo, fc, mo, mc, u0', u1', u2', u3', u4', u5', u6', u7', u8', ⟨x0, x1, x2⟩, ⟨x3, x4, x5, x6, x7, x8, x9, x10, x11⟩, ht⟩ := hrow1 k hka
        have htr := ht.rest
        obtain ⟨sa, sb, sc, sd, ⟨seo, sen, sec⟩, sf, ⟨sgo, sgn, sgc⟩, ⟨sio, sinn, sic⟩, ⟨sjo, sjn, sjc⟩, eshs⟩ := inT_shape htr
        simp only [Value.agg.injEq, Array.mk.injEq, List.cons.injEq, and_true] at eshs
        obtain ⟨rfl, rfl, rfl, rfl, rfl, rfl, rfl, rfl, rfl⟩ := eshs
        obtain ⟨b2, off2, hp2, hbl2, hrow2⟩ := (HB.out.keep HW.out).row (by omega)
        subst hp2
        obtain ⟨lo, lc, go, gc, po, pc, v0', v1', v2', v3', v4', v5', v6', v7', v8', ⟨y0, y1, y2⟩, ⟨y3, y4, y5, y6, y7, y8, y9, y10, y11⟩, hu⟩ := hrow2 k hkb
        have hur := hu.rest
        obtain ⟨ta, tb, tc, td, ⟨teo, ten, tec⟩, tf, ⟨tgo, tgn, tgc⟩, ⟨tio, tinn, tic⟩, ⟨tjo, tjn, tjc⟩, esht⟩ := inT_shape hur
        simp only [Value.agg.injEq, Array.mk.injEq, List.cons.injEq, and_true] at esht
        obtain ⟨rfl, rfl, rfl, rfl, rfl, rfl, rfl, rfl, rfl⟩ := esht
        replace x4 : wr.cell? ⟨b1, off1 + k * 12 + 4, none⟩ = _ := x4
        replace x5 : wr.cell? ⟨b1, off1 + k * 12 + 5, none⟩ = _ := x5
        replace x6 : wr.cell? ⟨b1, off1 + k * 12 + 6, none⟩ = _ := x6
        replace x7 : wr.cell? ⟨b1, off1 + k * 12 + 7, none⟩ = _ := x7
        replace x8 : wr.cell? ⟨b1, off1 + k * 12 + 8, none⟩ = _ := x8
        replace x9 : wr.cell? ⟨b1, off1 + k * 12 + 9, none⟩ = _ := x9
        replace x10 : wr.cell? ⟨b1, off1 + k * 12 + 10, none⟩ = _ := x10
        replace x11 : wr.cell? ⟨b1, off1 + k * 12 + 11, none⟩ = _ := x11
        replace y4 : wr.cell? ⟨b2, off2 + k * 12 + 4, none⟩ = _ := y4
        replace y5 : wr.cell? ⟨b2, off2 + k * 12 + 5, none⟩ = _ := y5
        replace y6 : wr.cell? ⟨b2, off2 + k * 12 + 6, none⟩ = _ := y6
        replace y7 : wr.cell? ⟨b2, off2 + k * 12 + 7, none⟩ = _ := y7
        replace y8 : wr.cell? ⟨b2, off2 + k * 12 + 8, none⟩ = _ := y8
        replace y9 : wr.cell? ⟨b2, off2 + k * 12 + 9, none⟩ = _ := y9
        replace y10 : wr.cell? ⟨b2, off2 + k * 12 + 10, none⟩ = _ := y10
        replace y11 : wr.cell? ⟨b2, off2 + k * 12 + 11, none⟩ = _ := y11
        have HC := Hid.mk (fun (d : Nat) (os : Array Obj) => w_rObj h HIh.out xs[k] ys[k] ko fo mo lo go po kc fc mc lc gc pc _ _ _ _ _ _ _ _ _ _ _ _ _ _ _ _ _ _ (grow (redrawn wr d) os) (ht.keep (below_regrown wr d os)) (hu.keep (below_regrown wr d os)) (HKX.out _ (List.getElem_mem hka)) (HKY.out _ (List.getElem_mem hkb)))
        generalize obC (cmpTy h) xs[k] ys[k] = c at HC HS
        generalize xs[k].names.length = K1 at *
        generalize xs[k].fields.length = F1 at *
        generalize xs[k].must.length = M1 at *
        generalize ys[k].names.length = K2 at *
        generalize ys[k].fields.length = F2 at *
        generalize ys[k].must.length = M2 at *
        clear hrow1 hrow2 hka hkb ht hu htr hur
        have Ax0 := fun d os => cell_regrown x0 d os
        have Ax1 := fun d os => cell_regrown x1 d os
        have Ax2 := fun d os => cell_regrown x2 d os
        have Ax3 := fun d os => cell_regrown x3 d os
        have Ax4 := fun d os => cell_regrown x4 d os
        have Ax5 := fun d os => cell_regrown x5 d os
        have Ax6 := fun d os => cell_regrown x6 d os
        have Ax7 := fun d os => cell_regrown x7 d os
        have Ax8 := fun d os => cell_regrown x8 d os
        have Ax9 := fun d os => cell_regrown x9 d os
        have Ax10 := fun d os => cell_regrown x10 d os
        have Ax11 := fun d os => cell_regrown x11 d os
        have Ay0 := fun d os => cell_regrown y0 d os
        have Ay1 := fun d os => cell_regrown y1 d os
        have Ay2 := fun d os => cell_regrown y2 d os
        have Ay3 := fun d os => cell_regrown y3 d os
        have Ay4 := fun d os => cell_regrown y4 d os
        have Ay5 := fun d os => cell_regrown y5 d os
        have Ay6 := fun d os => cell_regrown y6 d os
        have Ay7 := fun d os => cell_regrown y7 d os
        have Ay8 := fun d os => cell_regrown y8 d os
        have Ay9 := fun d os => cell_regrown y9 d os
        have Ay10 := fun d os => cell_regrown y10 d os
        have Ay11 := fun d os => cell_regrown y11 d os
        by_cases h0 : c = 0
        · have HN2 : Hid (listC (obC (cmpTy h)) xs ys = listC (obC (cmpTy h)) (xs.drop (k + 1)) (ys.drop (k + 1))) := by show _ = _; rw [HQ.out, HS.out, if_pos h0]
          subst h0
          clear HS HQ
          go_wp2_with fail
          refine wp_region_quiet_below (by kernel_rfl) (by kernel_rfl) ?_
          repeat (go_big_quiet_step (exact Calls.regrown_of (HC.out _ _)))
          refine wpQuiet_nil ?_
          intro w9 hw'
          have hb9 : Below wr.heap.size wr w9 := by
            obtain ⟨⟨dq, osq⟩, rfl⟩ := hw'
            exact below_regrown wr dq osq
          have HW9 := Hid.mk (HW.out.trans (hb9.mono HW.out.size))
          clear hw' hb9 Ax0 x0 Ax1 x1 Ax2 x2 Ax3 x3 Ax4 x4 Ax5 x5 Ax6 x6 Ax7 x7 Ax8 x8 Ax9 x9 Ax10 x10 Ax11 x11 Ay0 y0 Ay1 y1 Ay2 y2 Ay3 y3 Ay4 y4 Ay5 y5 Ay6 y6 Ay7 y7 Ay8 y8 Ay9 y9 Ay10 y10 Ay11 y11
          go_wp2_with fail
          go_roundw
          case rel => exact ⟨k + 1, hlt, hlt2, by go_num, HW9, HN2⟩
          case measure => simp [intOf]; omega
        · have HN2 : Hid (listC (obC (cmpTy h)) xs ys = c) := by show _ = _; rw [HQ.out, HS.out, if_neg h0]
          have h0' : (c != 0) = true := by simpa using h0
          clear HS HQ h0
          go_wp2_with fail
          refine wp_region_quiet_below (by kernel_rfl) (by kernel_rfl) ?_
          repeat (go_big_quiet_step (exact Calls.regrown_of (HC.out _ _)))
          refine wpQuiet_nil ?_
          intro w9 hw'
          have hb9 : Below wr.heap.size wr w9 := by
            obtain ⟨⟨dq, osq⟩, rfl⟩ := hw'
            exact below_regrown wr dq osq
          have HW9 := Hid.mk (HW.out.trans (hb9.mono HW.out.size))
          clear hw' hb9 Ax0 x0 Ax1 x1 Ax2 x2 Ax3 x3 Ax4 x4 Ax5 x5 Ax6 x6 Ax7 x7 Ax8 x8 Ax9 x9 Ax10 x10 Ax11 x11 Ay0 y0 Ay1 y1 Ay2 y2 Ay3 y3 Ay4 y4 Ay5 y5 Ay6 y6 Ay7 y7 Ay8 y8 Ay9 y9 Ay10 y10 Ay11 y11
          go_wp2_with fail
          go_ret
          exact ⟨by rw [HN2.out]; rfl, HW9.out⟩
      · have hl2 : ¬ (k : Int) < (N : Int) := by omega
        have HF : Hid (listC (obC (cmpTy h)) xs ys = Pl.cmpI M N) := by show _ = _; rw [HQ.out]; exact lens_end HM.out HN.out hk hk2 (.inr hlt2)
        generalize Pl.cmpI (M : Int) (N : Int) = z at HF HL
        clear HQ HA HB
        go_wp2_with fail
        refine (HL.out _).mono ?_
        rintro e w2 ⟨rfl, hw⟩
        obtain rfl := hw.symm
        go_wp2_with fail
        go_ret
        exact ⟨by rw [HF.out]; rfl, HW.out⟩
    · have hl1 : ¬ (k : Int) < (M : Int) := by omega
      have HF : Hid (listC (obC (cmpTy h)) xs ys = Pl.cmpI M N) := by show _ = _; rw [HQ.out]; exact lens_end HM.out HN.out hk hk2 (.inl hlt)
      generalize Pl.cmpI (M : Int) (N : Int) = z at HF HL
      clear HQ HA HB
      go_wp2_with fail
      refine (HL.out _).mono ?_
      rintro e w2 ⟨rfl, hw⟩
      obtain rfl := hw.symm
      go_wp2_with fail
      go_ret
      exact ⟨by rw [HF.out]; rfl, HW.out⟩

set_option maxRecDepth 100000 in
set_option maxHeartbeats 6400000 in
theorem rcmpT_step (sa sb sc sd : Bool) (seo : Option Addr) (sen sec : Nat) (sf : Bool) (sgo : Option Addr) (sgn sgc : Nat) (sio : Option Addr) (sinn sic : Nat) (sjo : Option Addr) (sjn sjc : Nat) (ta tb tc td : Bool) (teo : Option Addr) (ten tec : Nat) (tf : Bool) (tgo : Option Addr) (tgn tgc : Nat) (tio : Option Addr) (tinn tic : Nat) (tjo : Option Addr) (tjn tjc : Nat) (w : World) (r0 r1 r2 r3 r4 r5 : Int)
    (H0 : Hid (∀ u, Below w.heap.size w u → Calls Tryz.prog 71 #[.agg #[.bool sa, .bool sb, .bool sc, .bool sd, .slice seo sen sec, .bool sf, .slice sgo sgn sgc, .slice sio sinn sic, .slice sjo sjn sjc], .agg #[.bool ta, .bool tb, .bool tc, .bool td, .slice teo ten tec, .bool tf, .slice tgo tgn tgc, .slice tio tinn tic, .slice tjo tjn tjc]] u fun e w' => e = .returned (.int .i64 r0) ∧ Below u.heap.size u w'))
    (H1 : Hid (∀ u, Below w.heap.size w u → Calls Tryz.prog 72 #[.slice seo sen sec, .slice teo ten tec] u fun e w' => e = .returned (.int .i64 r1) ∧ Below u.heap.size u w'))
    (H2 : Hid (∀ u, Below w.heap.size w u → Calls Tryz.prog 73 #[.bool sf, .bool tf] u fun e w' => e = .returned (.int .i64 r2) ∧ Below u.heap.size u w'))
    (H3 : Hid (∀ u, Below w.heap.size w u → Calls Tryz.prog 74 #[.slice sgo sgn sgc, .slice tgo tgn tgc] u fun e w' => e = .returned (.int .i64 r3) ∧ Below u.heap.size u w'))
    (H4 : Hid (∀ u, Below w.heap.size w u → Calls Tryz.prog 75 #[.slice sio sinn sic, .slice tio tinn tic] u fun e w' => e = .returned (.int .i64 r4) ∧ Below u.heap.size u w'))
    (H5 : Hid (∀ u, Below w.heap.size w u → Calls Tryz.prog 76 #[.slice sjo sjn sjc, .slice tjo tjn tjc] u fun e w' => e = .returned (.int .i64 r5) ∧ Below u.heap.size u w')) :
    Calls Tryz.prog 62 #[.agg #[.bool sa, .bool sb, .bool sc, .bool sd, .slice seo sen sec, .bool sf, .slice sgo sgn sgc, .slice sio sinn sic, .slice sjo sjn sjc], .agg #[.bool ta, .bool tb, .bool tc, .bool td, .slice teo ten tec, .bool tf, .slice tgo tgn tgc, .slice tio tinn tic, .slice tjo tjn tjc]] w fun e w' => e = .returned (.int .i64 (Pl.orI r0 (Pl.orI r1 (Pl.orI r2 (Pl.orI r3 (Pl.orI r4 r5)))))) ∧ Below w.heap.size w w' := by
  obtain ⟨R, hR⟩ : ∃ R, Pl.orI r0 (Pl.orI r1 (Pl.orI r2 (Pl.orI r3 (Pl.orI r4 r5)))) = R := ⟨_, rfl⟩
  have HQ0 := Hid.mk hR.symm
  rw [hR]
  clear hR
  have HX := Hid.mk (bx2_new w #[.bool sa, .bool sb, .bool sc, .bool sd, .slice seo sen sec, .bool sf, .slice sgo sgn sgc, .slice sio sinn sic, .slice sjo sjn sjc] #[.bool ta, .bool tb, .bool tc, .bool td, .slice teo ten tec, .bool tf, .slice tgo tgn tgc, .slice tio tinn tic, .slice tjo tjn tjc] 32)
  obtain ⟨W0, hW0⟩ : ∃ W0, (w.alloc (.cells #[.bool sa, .bool sb, .bool sc, .bool sd, .slice seo sen sec, .bool sf, .slice sgo sgn sgc, .slice sio sinn sic, .slice sjo sjn sjc] 32)).alloc (.cells #[.bool ta, .bool tb, .bool tc, .bool td, .slice teo ten tec, .bool tf, .slice tgo tgn tgc, .slice tio tinn tic, .slice tjo tjn tjc] 32) = W0 := ⟨_, rfl⟩
  rw [hW0] at HX
  have p0 : W0.cell? ⟨w.heap.size, 0, none⟩ = some (.bool sa) := HX.out.one 0
  have q0 : W0.cell? ⟨w.heap.size + 1, 0, none⟩ = some (.bool ta) := HX.out.two 0
  have p1 : W0.cell? ⟨w.heap.size, 1, none⟩ = some (.bool sb) := HX.out.one 1
  have q1 : W0.cell? ⟨w.heap.size + 1, 1, none⟩ = some (.bool tb) := HX.out.two 1
  have p2 : W0.cell? ⟨w.heap.size, 2, none⟩ = some (.bool sc) := HX.out.one 2
  have q2 : W0.cell? ⟨w.heap.size + 1, 2, none⟩ = some (.bool tc) := HX.out.two 2
  have p3 : W0.cell? ⟨w.heap.size, 3, none⟩ = some (.bool sd) := HX.out.one 3
  have q3 : W0.cell? ⟨w.heap.size + 1, 3, none⟩ = some (.bool td) := HX.out.two 3
  have p4 : W0.cell? ⟨w.heap.size, 4, none⟩ = some (.slice seo sen sec) := HX.out.one 4
  have q4 : W0.cell? ⟨w.heap.size + 1, 4, none⟩ = some (.slice teo ten tec) := HX.out.two 4
  have p5 : W0.cell? ⟨w.heap.size, 5, none⟩ = some (.bool sf) := HX.out.one 5
  have q5 : W0.cell? ⟨w.heap.size + 1, 5, none⟩ = some (.bool tf) := HX.out.two 5
  have p6 : W0.cell? ⟨w.heap.size, 6, none⟩ = some (.slice sgo sgn sgc) := HX.out.one 6
  have q6 : W0.cell? ⟨w.heap.size + 1, 6, none⟩ = some (.slice tgo tgn tgc) := HX.out.two 6
  have p7 : W0.cell? ⟨w.heap.size, 7, none⟩ = some (.slice sio sinn sic) := HX.out.one 7
  have q7 : W0.cell? ⟨w.heap.size + 1, 7, none⟩ = some (.slice tio tinn tic) := HX.out.two 7
  have p8 : W0.cell? ⟨w.heap.size, 8, none⟩ = some (.slice sjo sjn sjc) := HX.out.one 8
  have q8 : W0.cell? ⟨w.heap.size + 1, 8, none⟩ = some (.slice tjo tjn tjc) := HX.out.two 8
  go_enter Tryz.func62, Tryz.ntmps62
  go_wp2_with fail
  refine (H0.out _ HX.out.below).mono ?_
  rintro e w1 ⟨rfl, hq⟩
  have HX' := Hid.mk (HX.out.keep hq)
  clear hq HX H0 hW0 p0 q0 p1 q1 p2 q2 p3 q3 p4 q4 p5 q5 p6 q6 p7 q7 p8 q8
  have HX := HX'
  clear HX'
  by_cases h0 : r0 = 0
  · subst h0
    have HQ1 : Hid (R = (Pl.orI r1 (Pl.orI r2 (Pl.orI r3 (Pl.orI r4 r5))))) := HQ0.out
    clear HQ0
    have p4 : w1.cell? ⟨w.heap.size, 4, none⟩ = some (.slice seo sen sec) := HX.out.one 4
    have q4 : w1.cell? ⟨w.heap.size + 1, 4, none⟩ = some (.slice teo ten tec) := HX.out.two 4
    go_wp2_with fail
    refine (H1.out _ HX.out.below).mono ?_
    rintro e w2 ⟨rfl, hq⟩
    have HX' := Hid.mk (HX.out.keep hq)
    clear hq HX H1 p4 q4
    have HX := HX'
    clear HX'
    by_cases h1 : r1 = 0
    · subst h1
      have HQ2 : Hid (R = (Pl.orI r2 (Pl.orI r3 (Pl.orI r4 r5)))) := HQ1.out
      clear HQ1
      have p5 : w2.cell? ⟨w.heap.size, 5, none⟩ = some (.bool sf) := HX.out.one 5
      have q5 : w2.cell? ⟨w.heap.size + 1, 5, none⟩ = some (.bool tf) := HX.out.two 5
      go_wp2_with fail
      refine (H2.out _ HX.out.below).mono ?_
      rintro e w3 ⟨rfl, hq⟩
      have HX' := Hid.mk (HX.out.keep hq)
      clear hq HX H2 p5 q5
      have HX := HX'
      clear HX'
      by_cases h2 : r2 = 0
      · subst h2
        have HQ3 : Hid (R = (Pl.orI r3 (Pl.orI r4 r5))) := HQ2.out
        clear HQ2
        have p6 : w3.cell? ⟨w.heap.size, 6, none⟩ = some (.slice sgo sgn sgc) := HX.out.one 6
        have q6 : w3.cell? ⟨w.heap.size + 1, 6, none⟩ = some (.slice tgo tgn tgc) := HX.out.two 6
        go_wp2_with fail
        refine (H3.out _ HX.out.below).mono ?_
        rintro e w4 ⟨rfl, hq⟩
        have HX' := Hid.mk (HX.out.keep hq)
        clear hq HX H3 p6 q6
        have HX := HX'
        clear HX'
        by_cases h3 : r3 = 0
        · subst h3
          have HQ4 : Hid (R = (Pl.orI r4 r5)) := HQ3.out
          clear HQ3
          have p7 : w4.cell? ⟨w.heap.size, 7, none⟩ = some (.slice sio sinn sic) := HX.out.one 7
          have q7 : w4.cell? ⟨w.heap.size + 1, 7, none⟩ = some (.slice tio tinn tic) := HX.out.two 7
          go_wp2_with fail
          refine (H4.out _ HX.out.below).mono ?_
          rintro e w5 ⟨rfl, hq⟩
          have HX' := Hid.mk (HX.out.keep hq)
          clear hq HX H4 p7 q7
          have HX := HX'
          clear HX'
          by_cases h4 : r4 = 0
          · subst h4
            have HQ5 : Hid (R = r5) := HQ4.out
            clear HQ4
            have p8 : w5.cell? ⟨w.heap.size, 8, none⟩ = some (.slice sjo sjn sjc) := HX.out.one 8
            have q8 : w5.cell? ⟨w.heap.size + 1, 8, none⟩ = some (.slice tjo tjn tjc) := HX.out.two 8
            go_wp2_with fail
            refine (H5.out _ HX.out.below).mono ?_
            rintro e w6 ⟨rfl, hq⟩
            have HX' := Hid.mk (HX.out.keep hq)
            clear hq HX H5 p8 q8
            have HX := HX'
            clear HX'
            go_wp2_with fail
            go_ret
            exact ⟨by rw [HQ5.out]; rfl, HX.out.below⟩
          · have HN : Hid (R = r4) := by show _ = _; rw [HQ4.out]; unfold Pl.orI; rw [if_neg h4]
            have h4' : (r4 == 0) = false := by simpa using h4
            clear HQ4 h4
            go_wp2_with fail
            go_ret
            exact ⟨by rw [HN.out]; rfl, HX.out.below⟩
        · have HN : Hid (R = r3) := by show _ = _; rw [HQ3.out]; unfold Pl.orI; rw [if_neg h3]
          have h3' : (r3 == 0) = false := by simpa using h3
          clear HQ3 h3
          go_wp2_with fail
          go_ret
          exact ⟨by rw [HN.out]; rfl, HX.out.below⟩
      · have HN : Hid (R = r2) := by show _ = _; rw [HQ2.out]; unfold Pl.orI; rw [if_neg h2]
        have h2' : (r2 == 0) = false := by simpa using h2
        clear HQ2 h2
        go_wp2_with fail
        go_ret
        exact ⟨by rw [HN.out]; rfl, HX.out.below⟩
    · have HN : Hid (R = r1) := by show _ = _; rw [HQ1.out]; unfold Pl.orI; rw [if_neg h1]
      have h1' : (r1 == 0) = false := by simpa using h1
      clear HQ1 h1
      go_wp2_with fail
      go_ret
      exact ⟨by rw [HN.out]; rfl, HX.out.below⟩
  · have HN : Hid (R = r0) := by show _ = _; rw [HQ0.out]; unfold Pl.orI; rw [if_neg h0]
    have h0' : (r0 == 0) = false := by simpa using h0
    clear HQ0 h0
    go_wp2_with fail
    go_ret
    exact ⟨by rw [HN.out]; rfl, HX.out.below⟩

/-- THE REFERENCE'S CMP, of every two types as they must be -/
theorem w_rCmpT : ∀ h, RcT h := by
  intro h
  induction h with
  | zero => intro A B va vb w gA gB hA hB; exact hA.elim
  | succ h ih =>
    intro A B va vb w gA gB hA hB
    obtain ⟨no, nc, xo, xc, ao, ac, oo, oc, rfl, ⟨a1, a2, a3, a4⟩, ⟨a5, a6, a7, a8⟩, z1, z2, hs, hk, ha, ho⟩ := hA
    obtain ⟨no2, nc2, xo2, xc2, ao2, ac2, oo2, oc2, rfl, ⟨b1, b2, b3, b4⟩, ⟨b5, b6, b7, b8⟩, y1, y2, hs2, hk2, ha2, ho2⟩ := hB
    have hAr : ArIn w h ao A.arrs := ⟨ha⟩
    have hAr2 : ArIn w h ao2 B.arrs := ⟨ha2⟩
    have mk : ∀ (oo : Option Addr) (T : TT), (0 < T.objs.length → ∃ b off, oo = some ⟨b, off, none⟩ ∧ b < w.heap.size ∧ ∀ i, (hi : i < T.objs.length) → ∃ (ko : Option Addr) (kc : Nat) (fo : Option Addr) (fc : Nat) (mo : Option Addr) (mc : Nat) (c0 c1 c2 c3 c4 c5 c6 c7 c8 : Value),
        (w.cell? ⟨b, off + i * 12, none⟩ = some (.slice ko T.objs[i].names.length kc) ∧ w.cell? ⟨b, off + i * 12 + 1, none⟩ = some (.slice fo T.objs[i].fields.length fc) ∧ w.cell? ⟨b, off + i * 12 + 2, none⟩ = some (.slice mo T.objs[i].must.length mc)) ∧
        C9 w b (off + i * 12 + 3) c0 c1 c2 c3 c4 c5 c6 c7 c8 ∧
        (T.objs[i].names.length ≤ kc ∧ T.objs[i].fields.length ≤ fc ∧ T.objs[i].must.length ≤ mc) ∧
        (T.objs[i].names.length ≤ 140737488355328 ∧ T.objs[i].fields.length ≤ 140737488355328 ∧ T.objs[i].must.length ≤ 140737488355328 ∧ ∀ k ∈ T.objs[i].names, k.size ≤ 140737488355328) ∧
        KIn w ko T.objs[i].names ∧ BoIn w mo T.objs[i].must ∧
        (0 < T.objs[i].fields.length → ∃ b2 off2, fo = some ⟨b2, off2, none⟩ ∧ b2 < w.heap.size ∧ ∀ j, (hj : j < T.objs[i].fields.length) → ∃ d0 d1 d2 d3 d4 d5 d6 d7 d8 : Value,
          C9 w b2 (off2 + j * 9) d0 d1 d2 d3 d4 d5 d6 d7 d8 ∧ InT w h T.objs[i].fields[j] (.agg #[d0, d1, d2, d3, d4, d5, d6, d7, d8])) ∧
        InT w h T.objs[i].rest (.agg #[c0, c1, c2, c3, c4, c5, c6, c7, c8])) → ObIn w h oo T.objs := fun oo T ho => ⟨fun h0 => by
      obtain ⟨b, off, e, hl, hc⟩ := ho h0
      refine ⟨b, off, e, hl, fun i hi => ?_⟩
      obtain ⟨ko, kc, fo, fc, mo, mc, c0, c1, c2, c3, c4, c5, c6, c7, c8, g, h1, h2, h3, h4, h5, h6, h7⟩ := hc i hi
      exact ⟨ko, kc, fo, fc, mo, mc, c0, c1, c2, c3, c4, c5, c6, c7, c8, g, h1, ⟨h2, h3, h4, h5, h6, h7⟩⟩⟩
    have hOb := mk oo A ho
    have hOb2 := mk oo2 B ho2
    exact rcmpT_step A.all A.nul A.fls A.tru no A.nums.length nc A.any xo A.texts.length xc ao A.arrs.length ac oo A.objs.length oc B.all B.nul B.fls B.tru no2 B.nums.length nc2 B.any xo2 B.texts.length xc2 ao2 B.arrs.length ac2 oo2 B.objs.length oc2 w
      (flC A B) (listC spC A.nums B.nums) (setC A.any B.any) (listC keyC A.texts B.texts) (listC (arC (cmpTy h)) A.arrs B.arrs) (listC (obC (cmpTy h)) A.objs B.objs)
      (Hid.mk fun u hu => w_rWords _ _ _ _ _ _ _ _ _ _ _ _ _ _ _ _ _ _ _ _ _ _ _ _ _ _ _ _ _ _ _ _ _ _ u)
      (Hid.mk fun u hu => w_rNumsL no _ nc A.nums no2 _ nc2 B.nums u (hs.keep hu) (hs2.keep hu) rfl rfl a1 b1 a5 b5 (fun p hp => ⟨gA.1 p hp, z1 p hp⟩) (fun p hp => ⟨gB.1 p hp, y1 p hp⟩))
      (Hid.mk fun u hu => (w_rTruth A.any B.any u).mono fun e w' k => ⟨k.1, by rw [k.2]; exact Below.refl _ _⟩)
      (Hid.mk fun u hu => w_rTextsL xo _ xc A.texts xo2 _ xc2 B.texts u (hk.keep hu) (hk2.keep hu) rfl rfl a2 b2 a6 b6)
      (Hid.mk fun u hu => w_rArrsL h ih ao _ ac A.arrs ao2 _ ac2 B.arrs u (hAr.keep hu) (hAr2.keep hu) rfl rfl a3 b3 a7 b7 gA.2.1 gB.2.1)
      (Hid.mk fun u hu => w_rObjsL h ih oo _ oc A.objs oo2 _ oc2 B.objs u (hOb.keep hu) (hOb2.keep hu) rfl rfl a4 b4 a8 b8 gA.2.2 gB.2.2)
end Go.Proofs.YtdjoelhiahpmlaaGreat
