import Derived.Test.YtahknjhphbpmiaaZCMp
import Derived.Test.YtahknjhphbpmiaaM24
import Derived.Test.YtahknjhphbpmiaaZTYh
import Derived.Test.YtahknjhphbpmiaaM23
namespace Go.Proofs.Ytahknjhphbpmiaa
open Go.RowKit Go.Shelf Go.Sort
set_option linter.unusedVariables false
set_option linter.unusedSimpArgs false
attribute [local go_sem] Oper.semAt_some


theorem w_rTruth (a b : Bool) (w : World) : Calls Try.prog 23 #[.bool a, .bool b] w fun e w' => e = .returned (.int .i64 (setC a b)) ∧ w' = w := by
  cases a <;> cases b
  all_goals
    go_enter Try.func23, Try.ntmps23
    go_wp2_with fail
    go_ret
    exact ⟨by rfl, rfl⟩
set_option maxRecDepth 100000 in
set_option maxHeartbeats 1600000 in
theorem w_rBounds (a b : ByteArray) (en : Int) (w : World) (he : en = -1 ∨ en = 1) (ka : bdk a) (kb : bdk b) (ha : a.size ≤ 140737488355328) (hb : b.size ≤ 140737488355328) : Calls Try.prog 39 #[.string a, .string b, .int .i64 en] w fun e w' => e = .returned (.int .i64 (bdC a b en)) ∧ Below w.heap.size w w' := by
  cases h1 : (a.toList == b.toList) with
  | true =>
    have HX : Hid (bdC a b en = 0) := by show _ = _; unfold bdC eqS; rw [h1]; rfl
    go_enter Try.func39, Try.ntmps39
    go_wp2_with fail
    go_ret
    exact ⟨by rw [HX.out]; rfl, Below.refl _ _⟩
  | false =>
    by_cases h2 : a.toList = []
    · have h2' : a.toList.isEmpty = true := by rw [h2]; rfl
      have HX : Hid (bdC a b en = en) := by show _ = _; unfold bdC eqS; rw [h1, h2']; rfl
      have h4 : b.toList.isEmpty = false := by
        cases h : b.toList with
        | nil => rw [h2, h] at h1; cases h1
        | cons => rfl
      have h5 : ¬ b.toList = [] := fun h => by rw [h] at h4; cases h4
      go_enter Try.func39, Try.ntmps39
      go_wp2_with fail
      go_ret
      exact ⟨by rw [HX.out]; rfl, Below.refl _ _⟩
    · have h2' : a.toList.isEmpty = false := by cases h : a.toList with | nil => exact absurd h h2 | cons => rfl
      by_cases h3 : b.toList = []
      · have h3' : b.toList.isEmpty = true := by rw [h3]; rfl
        have HX : Hid (bdC a b en = -en) := by show _ = _; unfold bdC eqS; rw [h1, h2', h3']; rfl
        rcases he with rfl | rfl
        all_goals
          go_enter Try.func39, Try.ntmps39
          go_wp2_with fail
          go_ret
          exact ⟨by rw [HX.out]; rfl, Below.refl _ _⟩
      · have h3' : b.toList.isEmpty = false := by cases h : b.toList with | nil => exact absurd h h3 | cons => rfl
        have HX : Hid (bdC a b en = numC a b) := by show _ = _; unfold bdC eqS; rw [h1, h2', h3']; rfl
        have fa : Pl.formed a.data.toList = true := ka.resolve_left (fun h => by rw [emp_size] at h2'; simp [h] at h2')
        have fb : Pl.formed b.data.toList = true := kb.resolve_left (fun h => by rw [emp_size] at h3'; simp [h] at h3')
        have HC := Hid.mk (fun u => w_Numbers a b u fa fb ha hb)
        generalize numC a b = c at HC HX
        clear ka kb fa fb
        go_enter Try.func39, Try.ntmps39
        go_wp2_with fail
        refine (HC.out _).mono ?_
        rintro e w1 ⟨rfl, hb1⟩
        have HB := Hid.mk hb1
        clear hb1
        go_wp2_with fail
        go_ret
        exact ⟨by rw [HX.out]; rfl, HB.out⟩
theorem lens_end {α : Type} {c : α → α → Int} {xs ys : List α} {k M N : Nat} (hM : xs.length = M) (hN : ys.length = N) (hk : k ≤ M) (hk2 : k ≤ N) (h : ¬ k < M ∨ ¬ k < N) : listC c (xs.drop k) (ys.drop k) = Pl.cmpI M N := by
  unfold Pl.cmpI
  by_cases h1 : k < M
  · rw [listC_more (by omega) (by omega), if_neg (by omega), if_pos (by omega)]
  · by_cases h2 : k < N
    · rw [listC_less (by omega) (by omega), if_pos (by omega)]
    · rw [listC_even (by omega) (by omega), if_neg (by omega), if_neg (by omega)]

set_option maxRecDepth 100000 in
set_option maxHeartbeats 3200000 in
theorem w_rWords (sa sb sc sd : Bool) (seo : Option Addr) (sen sec : Nat) (sf : Bool) (sgo : Option Addr) (sgn sgc : Nat) (sio : Option Addr) (sinn sic : Nat) (sjo : Option Addr) (sjn sjc : Nat) (ta tb tc td : Bool) (teo : Option Addr) (ten tec : Nat) (tf : Bool) (tgo : Option Addr) (tgn tgc : Nat) (tio : Option Addr) (tinn tic : Nat) (tjo : Option Addr) (tjn tjc : Nat) (w : World) :
    Calls Try.prog 21 #[.agg #[.bool sa, .bool sb, .bool sc, .bool sd, .slice seo sen sec, .bool sf, .slice sgo sgn sgc, .slice sio sinn sic, .slice sjo sjn sjc], .agg #[.bool ta, .bool tb, .bool tc, .bool td, .slice teo ten tec, .bool tf, .slice tgo tgn tgc, .slice tio tinn tic, .slice tjo tjn tjc]] w fun e w' => e = .returned (.int .i64 (Pl.orI (setC sa ta) (Pl.orI (setC sb tb) (Pl.orI (setC sc tc) (setC sd td))))) ∧ Below w.heap.size w w' := by
  have HX := Hid.mk (bx2_new w #[.bool sa, .bool sb, .bool sc, .bool sd, .slice seo sen sec, .bool sf, .slice sgo sgn sgc, .slice sio sinn sic, .slice sjo sjn sjc] #[.bool ta, .bool tb, .bool tc, .bool td, .slice teo ten tec, .bool tf, .slice tgo tgn tgc, .slice tio tinn tic, .slice tjo tjn tjc] 27)
  obtain ⟨W0, hW0⟩ : ∃ W0, (w.alloc (.cells #[.bool sa, .bool sb, .bool sc, .bool sd, .slice seo sen sec, .bool sf, .slice sgo sgn sgc, .slice sio sinn sic, .slice sjo sjn sjc] 27)).alloc (.cells #[.bool ta, .bool tb, .bool tc, .bool td, .slice teo ten tec, .bool tf, .slice tgo tgn tgc, .slice tio tinn tic, .slice tjo tjn tjc] 27) = W0 := ⟨_, rfl⟩
  rw [hW0] at HX
  have p0 : W0.cell? ⟨w.heap.size, 0, none⟩ = some (.bool sa) := HX.out.one 0
  have q0 : W0.cell? ⟨w.heap.size + 1, 0, none⟩ = some (.bool ta) := HX.out.two 0
  have p1 : W0.cell? ⟨w.heap.size, 1, none⟩ = some (.bool sb) := HX.out.one 1
  have q1 : W0.cell? ⟨w.heap.size + 1, 1, none⟩ = some (.bool tb) := HX.out.two 1
  have p2 : W0.cell? ⟨w.heap.size, 2, none⟩ = some (.bool sc) := HX.out.one 2
  have q2 : W0.cell? ⟨w.heap.size + 1, 2, none⟩ = some (.bool tc) := HX.out.two 2
  have p3 : W0.cell? ⟨w.heap.size, 3, none⟩ = some (.bool sd) := HX.out.one 3
  have q3 : W0.cell? ⟨w.heap.size + 1, 3, none⟩ = some (.bool td) := HX.out.two 3
  have C0 := Hid.mk (fun u => w_rTruth sa ta u)
  have C1 := Hid.mk (fun u => w_rTruth sb tb u)
  have C2 := Hid.mk (fun u => w_rTruth sc tc u)
  have C3 := Hid.mk (fun u => w_rTruth sd td u)
  obtain ⟨R, hR⟩ : ∃ R, Pl.orI (setC sa ta) (Pl.orI (setC sb tb) (Pl.orI (setC sc tc) (setC sd td))) = R := ⟨_, rfl⟩
  have HQ := Hid.mk hR.symm
  rw [hR]
  clear hR
  generalize setC sa ta = x0 at C0 HQ
  generalize setC sb tb = x1 at C1 HQ
  generalize setC sc tc = x2 at C2 HQ
  generalize setC sd td = x3 at C3 HQ
  go_enter Try.func21, Try.ntmps21
  go_wp2_with fail
  refine (C0.out _).mono ?_
  rintro e w1 ⟨rfl, hw⟩
  obtain rfl := hw.symm
  clear C0
  by_cases h0 : x0 = 0
  · subst h0
    replace HQ : Hid (R = (Pl.orI x1 (Pl.orI x2 x3))) := HQ.out
    go_wp2_with fail
    refine (C1.out _).mono ?_
    rintro e w2 ⟨rfl, hw⟩
    obtain rfl := hw.symm
    clear C1
    by_cases h1 : x1 = 0
    · subst h1
      replace HQ : Hid (R = (Pl.orI x2 x3)) := HQ.out
      go_wp2_with fail
      refine (C2.out _).mono ?_
      rintro e w3 ⟨rfl, hw⟩
      obtain rfl := hw.symm
      clear C2
      by_cases h2 : x2 = 0
      · subst h2
        replace HQ : Hid (R = x3) := HQ.out
        go_wp2_with fail
        refine (C3.out _).mono ?_
        rintro e w4 ⟨rfl, hw⟩
        obtain rfl := hw.symm
        clear C3
        go_wp2_with fail
        go_ret
        exact ⟨by rw [HQ.out]; rfl, HX.out.below⟩
      · have HN : Hid (R = x2) := by show _ = _; rw [HQ.out]; unfold Pl.orI; rw [if_neg h2]
        have h2' : (x2 == 0) = false := by simpa using h2
        clear HQ h2
        go_wp2_with fail
        go_ret
        exact ⟨by rw [HN.out]; rfl, HX.out.below⟩
    · have HN : Hid (R = x1) := by show _ = _; rw [HQ.out]; unfold Pl.orI; rw [if_neg h1]
      have h1' : (x1 == 0) = false := by simpa using h1
      clear HQ h1
      go_wp2_with fail
      go_ret
      exact ⟨by rw [HN.out]; rfl, HX.out.below⟩
  · have HN : Hid (R = x0) := by show _ = _; rw [HQ.out]; unfold Pl.orI; rw [if_neg h0]
    have h0' : (x0 == 0) = false := by simpa using h0
    clear HQ h0
    go_wp2_with fail
    go_ret
    exact ⟨by rw [HN.out]; rfl, HX.out.below⟩
set_option maxRecDepth 100000 in
set_option maxHeartbeats 6400000 in
theorem w_rTextsL (ao : Option Addr) (M ac : Nat) (xs : List (ByteArray)) (bo : Option Addr) (N bc : Nat) (ys : List (ByteArray)) (w : World) (ha : KIn w ao xs) (hb : KIn w bo ys) (hM : xs.length = M) (hN : ys.length = N) (h1 : M ≤ ac) (h2 : N ≤ bc) (h3 : M ≤ 140737488355328) (h4 : N ≤ 140737488355328) :
    Calls Try.prog 24 #[.slice ao M ac, .slice bo N bc] w fun e w' => e = .returned (.int .i64 (listC keyC xs ys)) ∧ Below w.heap.size w w' := by
  have HA := Hid.mk ha
  have HB := Hid.mk hb
  have HM := Hid.mk hM
  have HN := Hid.mk hN
  have HL := Hid.mk (fun u => w_rLens (M : Int) (N : Int) u)
  clear ha hb hM hN
  go_enter Try.func24, Try.ntmps24
  go_wp2_with fail
  go_loopw [5] (fun i wr => ∃ k : Nat, k ≤ M ∧ k ≤ N ∧ i = .int .i64 (k : Int) ∧ Hid (Below w.heap.size w wr) ∧ Hid (listC keyC xs ys = listC keyC (xs.drop k) (ys.drop k))) (fun i _ => M - (intOf i).toNat)
  case atStart => exact ⟨0, Nat.zero_le _, Nat.zero_le _, rfl, Below.refl _ _, rfl⟩
  case round =>
    obtain ⟨k, hk, hk2, rfl, HW, HQ⟩ := hrel
    by_cases hlt : k < M
    · have hl1 : (k : Int) < (M : Int) := by omega
      have hl0 : (0 : Int) ≤ (k : Int) := by omega
      by_cases hlt2 : k < N
      · have hl2 : (k : Int) < (N : Int) := by omega
        have hka : k < xs.length := by rw [HM.out]; exact hlt
        have hkb : k < ys.length := by rw [HN.out]; exact hlt2
        have HS := Hid.mk (listC_step (c := keyC) hka hkb)
        clear HL
        obtain ⟨b1, off1, hp1, hbl1, hrow1⟩ := (HA.out.keep HW.out).row (by omega)
        subst hp1
        have x0 := hrow1 k hka
        rw [getD_key hka] at x0
        obtain ⟨b2, off2, hp2, hbl2, hrow2⟩ := (HB.out.keep HW.out).row (by omega)
        subst hp2
        have y0 := hrow2 k hkb
        rw [getD_key hkb] at y0
        have HC := Hid.mk (fun (d : Nat) (os : Array Obj) => (w_rTexts xs[k] ys[k] (grow (redrawn wr d) os)).mono (fun e w' kq => (⟨kq.1, by rw [kq.2]; exact Below.refl _ _⟩ : e = .returned (.int .i64 (keyC xs[k] ys[k])) ∧ Below (grow (redrawn wr d) os).heap.size (grow (redrawn wr d) os) w')))
        generalize keyC xs[k] ys[k] = c at HC HS
        generalize xs[k] = e1 at *
        generalize ys[k] = e2 at *
        clear hrow1 hrow2 hka hkb
        have Ax0 := fun d os => cell_regrown x0 d os
        have Ay0 := fun d os => cell_regrown y0 d os
        by_cases h0 : c = 0
        · have HN2 : Hid (listC keyC xs ys = listC keyC (xs.drop (k + 1)) (ys.drop (k + 1))) := by show _ = _; rw [HQ.out, HS.out, if_pos h0]
          subst h0
          clear HS HQ
          go_wp2_with fail
          refine wp_region_quiet_below (by kernel_rfl) (by kernel_rfl) ?_
          repeat (go_big_quiet_step (exact Calls.regrown_of (HC.out _ _)))
          refine wpQuiet_nil ?_
          intro w9 hw'
          have hb9 : Below wr.heap.size wr w9 := by
            obtain ⟨⟨dq, osq⟩, rfl⟩ := hw'
            exact below_regrown wr dq osq
          have HW9 := Hid.mk (HW.out.trans (hb9.mono HW.out.size))
          clear hw' hb9 Ax0 x0 Ay0 y0
          go_wp2_with fail
          go_roundw
          case rel => exact ⟨k + 1, hlt, hlt2, by go_num, HW9, HN2⟩
          case measure => simp [intOf]; omega
        · have HN2 : Hid (listC keyC xs ys = c) := by show _ = _; rw [HQ.out, HS.out, if_neg h0]
          have h0' : (c != 0) = true := by simpa using h0
          clear HS HQ h0
          go_wp2_with fail
          refine wp_region_quiet_below (by kernel_rfl) (by kernel_rfl) ?_
          repeat (go_big_quiet_step (exact Calls.regrown_of (HC.out _ _)))
          refine wpQuiet_nil ?_
          intro w9 hw'
          have hb9 : Below wr.heap.size wr w9 := by
            obtain ⟨⟨dq, osq⟩, rfl⟩ := hw'
            exact below_regrown wr dq osq
          have HW9 := Hid.mk (HW.out.trans (hb9.mono HW.out.size))
          clear hw' hb9 Ax0 x0 Ay0 y0
          go_wp2_with fail
          go_ret
          exact ⟨by rw [HN2.out]; rfl, HW9.out⟩
      · have hl2 : ¬ (k : Int) < (N : Int) := by omega
        have HF : Hid (listC keyC xs ys = Pl.cmpI M N) := by show _ = _; rw [HQ.out]; exact lens_end HM.out HN.out hk hk2 (.inr hlt2)
        generalize Pl.cmpI (M : Int) (N : Int) = z at HF HL
        clear HQ HA HB
        go_wp2_with fail
        refine (HL.out _).mono ?_
        rintro e w2 ⟨rfl, hw⟩
        obtain rfl := hw.symm
        go_wp2_with fail
        go_ret
        exact ⟨by rw [HF.out]; rfl, HW.out⟩
    · have hl1 : ¬ (k : Int) < (M : Int) := by omega
      have HF : Hid (listC keyC xs ys = Pl.cmpI M N) := by show _ = _; rw [HQ.out]; exact lens_end HM.out HN.out hk hk2 (.inl hlt)
      generalize Pl.cmpI (M : Int) (N : Int) = z at HF HL
      clear HQ HA HB
      go_wp2_with fail
      refine (HL.out _).mono ?_
      rintro e w2 ⟨rfl, hw⟩
      obtain rfl := hw.symm
      go_wp2_with fail
      go_ret
      exact ⟨by rw [HF.out]; rfl, HW.out⟩
set_option maxRecDepth 100000 in
set_option maxHeartbeats 6400000 in
theorem w_rNumsL (ao : Option Addr) (M ac : Nat) (xs : List (ByteArray × ByteArray)) (bo : Option Addr) (N bc : Nat) (ys : List (ByteArray × ByteArray)) (w : World) (ha : SpIn w ao xs) (hb : SpIn w bo ys) (hM : xs.length = M) (hN : ys.length = N) (h1 : M ≤ ac) (h2 : N ≤ bc) (h3 : M ≤ 140737488355328) (h4 : N ≤ 140737488355328) (kx : ∀ p ∈ xs, (bdk p.1 ∧ bdk p.2) ∧ p.1.size ≤ 140737488355328 ∧ p.2.size ≤ 140737488355328) (ky : ∀ p ∈ ys, (bdk p.1 ∧ bdk p.2) ∧ p.1.size ≤ 140737488355328 ∧ p.2.size ≤ 140737488355328) :
    Calls Try.prog 22 #[.slice ao M ac, .slice bo N bc] w fun e w' => e = .returned (.int .i64 (listC spC xs ys)) ∧ Below w.heap.size w w' := by
  have HA := Hid.mk ha
  have HB := Hid.mk hb
  have HM := Hid.mk hM
  have HN := Hid.mk hN
  have HL := Hid.mk (fun u => w_rLens (M : Int) (N : Int) u)
  have HKX := Hid.mk kx
  have HKY := Hid.mk ky
  clear kx ky
  clear ha hb hM hN
  go_enter Try.func22, Try.ntmps22
  go_wp2_with fail
  go_loopw [5] (fun i wr => ∃ k : Nat, k ≤ M ∧ k ≤ N ∧ i = .int .i64 (k : Int) ∧ Hid (Below w.heap.size w wr) ∧ Hid (listC spC xs ys = listC spC (xs.drop k) (ys.drop k))) (fun i _ => M - (intOf i).toNat)
  case atStart => exact ⟨0, Nat.zero_le _, Nat.zero_le _, rfl, Below.refl _ _, rfl⟩
  case round =>
    obtain ⟨k, hk, hk2, rfl, HW, HQ⟩ := hrel
    by_cases hlt : k < M
    · have hl1 : (k : Int) < (M : Int) := by omega
      have hl0 : (0 : Int) ≤ (k : Int) := by omega
      by_cases hlt2 : k < N
      · have hl2 : (k : Int) < (N : Int) := by omega
        have hka : k < xs.length := by rw [HM.out]; exact hlt
        have hkb : k < ys.length := by rw [HN.out]; exact hlt2
        have HS := Hid.mk (listC_step (c := spC) hka hkb)
        clear HL
        obtain ⟨b1, off1, hp1, hbl1, hrow1⟩ := (HA.out.keep HW.out).row (by omega)
        subst hp1
        obtain ⟨x0, x1⟩ := hrow1 k hka
        obtain ⟨b2, off2, hp2, hbl2, hrow2⟩ := (HB.out.keep HW.out).row (by omega)
        subst hp2
        obtain ⟨y0, y1⟩ := hrow2 k hkb
        have gx := HKX.out _ (List.getElem_mem hka)
        have gy := HKY.out _ (List.getElem_mem hkb)
        have HC := Hid.mk (fun (d : Nat) (os : Array Obj) => w_rBounds xs[k].1 ys[k].1 (-1) (grow (redrawn wr d) os) (.inl rfl) gx.1.1 gy.1.1 gx.2.1 gy.2.1)
        have HD := Hid.mk (fun u => w_rBounds xs[k].2 ys[k].2 1 u (.inr rfl) gx.1.2 gy.1.2 gx.2.2 gy.2.2)
        have HSP : Hid (spC xs[k] ys[k] = Pl.orI (bdC xs[k].1 ys[k].1 (-1)) (bdC xs[k].2 ys[k].2 1)) := rfl
        generalize bdC xs[k].1 ys[k].1 (-1) = c at HC HSP
        generalize bdC xs[k].2 ys[k].2 1 = d at HD HSP
        generalize spC xs[k] ys[k] = s at HS HSP
        generalize xs[k].1 = e1 at *
        generalize ys[k].1 = e2 at *
        generalize xs[k].2 = e3 at *
        generalize ys[k].2 = e4 at *
        clear hrow1 hrow2 hka hkb gx gy
        have Ax0 := fun d os => cell_regrown x0 d os
        have Ay0 := fun d os => cell_regrown y0 d os
        by_cases h0 : c = 0
        · subst h0
          have HSP2 : Hid (s = d) := HSP.out
          clear HSP
          go_wp2_with fail
          refine wp_region_quiet_below (by kernel_rfl) (by kernel_rfl) ?_
          repeat (go_big_quiet_step (exact Calls.regrown_of (HC.out _ _)))
          refine wpQuiet_nil ?_
          intro w9 hw'
          have hb9 : Below wr.heap.size wr w9 := by
            obtain ⟨⟨dq, osq⟩, rfl⟩ := hw'
            exact below_regrown wr dq osq
          have HW9 := Hid.mk (HW.out.trans (hb9.mono HW.out.size))
          replace x1 := (hb9.cell (p := ⟨_, _, _⟩) hbl1).trans x1
          replace y1 := (hb9.cell (p := ⟨_, _, _⟩) hbl2).trans y1
          clear hw' hb9 Ax0 Ay0 x0 y0
          have HE := Hid.mk (fun (d : Nat) (os : Array Obj) => HD.out (grow (redrawn w9 d) os))
          have Ax1 := fun d os => cell_regrown x1 d os
          have Ay1 := fun d os => cell_regrown y1 d os
          by_cases h1 : d = 0
          · have HN2 : Hid (listC spC xs ys = listC spC (xs.drop (k + 1)) (ys.drop (k + 1))) := by show _ = _; rw [HQ.out, HS.out, if_pos (HSP2.out.trans h1)]
            subst h1
            clear HS HQ HSP2
            go_wp2_with fail
            refine wp_region_quiet_below (by kernel_rfl) (by kernel_rfl) ?_
            repeat (go_big_quiet_step (exact Calls.regrown_of (HE.out _ _)))
            refine wpQuiet_nil ?_
            intro w8 hw8
            have hb8 : Below w9.heap.size w9 w8 := by
              obtain ⟨⟨dq, osq⟩, rfl⟩ := hw8
              exact below_regrown w9 dq osq
            have HW8 := Hid.mk (HW9.out.trans (hb8.mono HW9.out.size))
            clear hw8 hb8 Ax1 Ay1 x1 y1
            go_wp2_with fail
            go_roundw
            case rel => exact ⟨k + 1, hlt, hlt2, by go_num, HW8, HN2⟩
            case measure => simp [intOf]; omega
          · have HN2 : Hid (listC spC xs ys = d) := by show _ = _; rw [HQ.out, HS.out, HSP2.out, if_neg h1]
            have h1' : (d != 0) = true := by simpa using h1
            clear HS HQ HSP2 h1
            go_wp2_with fail
            refine wp_region_quiet_below (by kernel_rfl) (by kernel_rfl) ?_
            repeat (go_big_quiet_step (exact Calls.regrown_of (HE.out _ _)))
            refine wpQuiet_nil ?_
            intro w8 hw8
            have hb8 : Below w9.heap.size w9 w8 := by
              obtain ⟨⟨dq, osq⟩, rfl⟩ := hw8
              exact below_regrown w9 dq osq
            have HW8 := Hid.mk (HW9.out.trans (hb8.mono HW9.out.size))
            clear hw8 hb8 Ax1 Ay1 x1 y1
            go_wp2_with fail
            go_ret
            exact ⟨by rw [HN2.out]; rfl, HW8.out⟩
        · have hsc : s = c := by have := HSP.out; rw [this]; unfold Pl.orI; rw [if_neg h0]
          have HN2 : Hid (listC spC xs ys = c) := by show _ = _; rw [HQ.out, HS.out, hsc, if_neg h0]
          have h0' : (c == 0) = false := by simpa using h0
          have h0'' : (c != 0) = true := by simpa using h0
          clear HS HQ HSP h0 hsc
          go_wp2_with fail
          refine wp_region_quiet_below (by kernel_rfl) (by kernel_rfl) ?_
          repeat (go_big_quiet_step (exact Calls.regrown_of (HC.out _ _)))
          refine wpQuiet_nil ?_
          intro w9 hw'
          have hb9 : Below wr.heap.size wr w9 := by
            obtain ⟨⟨dq, osq⟩, rfl⟩ := hw'
            exact below_regrown wr dq osq
          have HW9 := Hid.mk (HW.out.trans (hb9.mono HW.out.size))
          clear hw' hb9 Ax0 Ay0 x0 y0 x1 y1
          go_wp2_with fail
          go_ret
          exact ⟨by rw [HN2.out]; rfl, HW9.out⟩
      · have hl2 : ¬ (k : Int) < (N : Int) := by omega
        have HF : Hid (listC spC xs ys = Pl.cmpI M N) := by show _ = _; rw [HQ.out]; exact lens_end HM.out HN.out hk hk2 (.inr hlt2)
        generalize Pl.cmpI (M : Int) (N : Int) = z at HF HL
        clear HQ HA HB
        go_wp2_with fail
        refine (HL.out _).mono ?_
        rintro e w2 ⟨rfl, hw⟩
        obtain rfl := hw.symm
        go_wp2_with fail
        go_ret
        exact ⟨by rw [HF.out]; rfl, HW.out⟩
    · have hl1 : ¬ (k : Int) < (M : Int) := by omega
      have HF : Hid (listC spC xs ys = Pl.cmpI M N) := by show _ = _; rw [HQ.out]; exact lens_end HM.out HN.out hk hk2 (.inl hlt)
      generalize Pl.cmpI (M : Int) (N : Int) = z at HF HL
      clear HQ HA HB
      go_wp2_with fail
      refine (HL.out _).mono ?_
      rintro e w2 ⟨rfl, hw⟩
      obtain rfl := hw.symm
      go_wp2_with fail
      go_ret
      exact ⟨by rw [HF.out]; rfl, HW.out⟩
end Go.Proofs.Ytahknjhphbpmiaa
