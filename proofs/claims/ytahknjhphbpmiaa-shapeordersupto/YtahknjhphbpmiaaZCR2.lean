import Derived.Test.YtahknjhphbpmiaaZCMp
import Derived.Test.YtahknjhphbpmiaaM24
import Derived.Test.YtahknjhphbpmiaaZTYh
import Derived.Test.YtahknjhphbpmiaaM23
namespace Go.Proofs.Ytahknjhphbpmiaa
open Go.RowKit Go.Shelf Go.Sort
set_option linter.unusedVariables false
set_option linter.unusedSimpArgs false
attribute [local go_sem] Oper.semAt_some


theorem w_rTruth (a b : Bool) (w : World) : Calls Try.prog 23 #[.bool a, .bool b] w fun e w' => e = .returned (.int .i64 (setC a b)) ∧ w' = w := by
  cases a <;> cases b
  all_goals
    go_enter Try.func23, Try.ntmps23
    go_wp2_with fail
    go_ret
    exact ⟨by rfl, rfl⟩
set_option maxRecDepth 100000 in
set_option maxHeartbeats 1600000 in
theorem w_rBounds (a b : ByteArray) (en : Int) (w : World) (he : en = -1 ∨ en = 1) (ka : bdk a) (kb : bdk b) (ha : a.size ≤ 140737488355328) (hb : b.size ≤ 140737488355328) : Calls Try.prog 39 #[.string a, .string b, .int .i64 en] w fun e w' => e = .returned (.int .i64 (bdC a b en)) ∧ Below w.heap.size w w' := by
  cases h1 : (a.toList == b.toList) with
  | true =>
    have HX : Hid (bdC a b en = 0) := by show _ = _; unfold bdC eqS; rw [h1]; rfl
    go_enter Try.func39, Try.ntmps39
    go_wp2_with fail
    go_ret
    exact ⟨by rw [HX.out]; rfl, Below.refl _ _⟩
  | false =>
    by_cases h2 : a.toList = []
    · have h2' : a.toList.isEmpty = true := by rw [h2]; rfl
      have HX : Hid (bdC a b en = en) := by show _ = _; unfold bdC eqS; rw [h1, h2']; rfl
      have h4 : b.toList.isEmpty = false := by
        cases h : b.toList with
        | nil => rw [h2, h] at h1; cases h1
        | cons => rfl
      have h5 : ¬ b.toList = [] := fun h => by rw [h] at h4; cases h4
      go_enter Try.func39, Try.ntmps39
      go_wp2_with fail
      go_ret
      exact ⟨by rw [HX.out]; rfl, Below.refl _ _⟩
    · have h2' : a.toList.isEmpty = false := by cases h : a.toList with | nil => exact absurd h h2 | cons => rfl
      by_cases h3 : b.toList = []
      · have h3' : b.toList.isEmpty = true := by rw [h3]; rfl
        have HX : Hid (bdC a b en = -en) := by show _ = _; unfold bdC eqS; rw [h1, h2', h3']; rfl
        rcases he with rfl | rfl
        all_goals
          go_enter Try.func39, Try.ntmps39
          go_wp2_with fail
          go_ret
          exact ⟨by rw [HX.out]; rfl, Below.refl _ _⟩
      · have h3' : b.toList.isEmpty = false := by cases h : b.toList with | nil => exact absurd h h3 | cons => rfl
        have HX : Hid (bdC a b en = numC a b) := by show _ = _; unfold bdC eqS; rw [h1, h2', h3']; rfl
        have fa : Pl.formed a.data.toList = true := ka.resolve_left (fun h => by rw [emp_size] at h2'; simp [h] at h2')
        have fb : Pl.formed b.data.toList = true := kb.resolve_left (fun h => by rw [emp_size] at h3'; simp [h] at h3')
        have HC := Hid.mk (fun u => w_Numbers a b u fa fb ha hb)
        generalize numC a b = c at HC HX
        clear ka kb fa fb
        go_enter Try.func39, Try.ntmps39
        go_wp2_with fail
        refine (HC.out _).mono ?_
        rintro e w1 ⟨rfl, hb1⟩
        have HB := Hid.mk hb1
        clear hb1
        go_wp2_with fail
        go_ret
        exact ⟨by rw [HX.out]; rfl, HB.out⟩
theorem lens_end {α : Type} {c : α → α → Int} {xs ys : List α} {k M N : Nat} (hM : xs.length = M) (hN : ys.length = N) (hk : k ≤ M) (hk2 : k ≤ N) (h : ¬ k < M ∨ ¬ k < N) : listC c (xs.drop k) (ys.drop k) = Pl.cmpI M N := by
  unfold Pl.cmpI
  by_cases h1 : k < M
  · rw [listC_more (by omega) (by omega), if_neg (by omega), if_pos (by omega)]
  · by_cases h2 : k < N
    · rw [listC_less (by omega) (by omega), if_pos (by omega)]
    · rw [listC_even (by omega) (by omega), if_neg (by omega), if_neg (by omega)]

set_option maxRecDepth 100000 in
set_option maxHeartbeats 3200000 in
theorem w_rWords (sa sb sc sd : Bool) (seo : Option Addr) (sen sec : Nat) (sf : Bool) (sgo : Option Addr) (sgn sgc : Nat) (sio : Option Addr) (sinn sic : Nat) (sjo : Option Addr) (sjn sjc : Nat) (ta tb tc td : Bool) (teo : Option Addr) (ten tec : Nat) (tf : Bool) (tgo : Option Addr) (tgn tgc : Nat) (tio : Option Addr) (tinn tic : Nat) (tjo : Option Addr) (tjn tjc : Nat) (w : World) :
    Calls Try.prog 21 #[.agg #[.bool sa, .bool sb, .bool sc, .bool sd, .slice seo sen sec, .bool sf, .slice sgo sgn sgc, .slice sio sinn sic, .slice sjo sjn sjc], .agg #[.bool ta, .bool tb, .bool tc, .bool td, .slice teo ten tec, .bool tf, .slice tgo tgn tgc, .slice tio tinn tic, .slice tjo tjn tjc]] w fun e w' => e = .returned (.int .i64 (Pl.orI (setC sa ta) (Pl.orI (setC sb tb) (Pl.orI (setC sc tc) (setC sd td))))) ∧ Below w.heap.size w w' := by
  have HX := Hid.mk (bx2_new w #[.bool sa, .bool sb, .bool sc, .bool sd, .slice seo sen sec, .bool sf, .slice sgo sgn sgc, .slice sio sinn sic, .slice sjo sjn sjc] #[.bool ta, .bool tb, .bool tc, .bool td, .slice teo ten tec, .bool tf, .slice tgo tgn tgc, .slice tio tinn tic, .slice tjo tjn tjc] 27)
  obtain ⟨W0, hW0⟩ : ∃ W0, (w.alloc (.cells #[.bool sa, .bool sb, .bool sc, .bool sd, .slice seo sen sec, .bool sf, .slice sgo sgn sgc, .slice sio sinn sic, .slice sjo sjn sjc] 27)).alloc (.cells #[.bool ta, .bool tb, .bool tc, .bool td, .slice teo ten tec, .bool tf, .slice tgo tgn tgc, .slice tio tinn tic, .slice tjo tjn tjc] 27) = W0 := ⟨_, rfl⟩
  rw [hW0] at HX
  have p0 : W0.cell? ⟨w.heap.size, 0, none⟩ = some (.bool sa) := HX.out.one 0
  have q0 : W0.cell? ⟨w.heap.size + 1, 0, none⟩ = some (.bool ta) := HX.out.two 0
  have p1 : W0.cell? ⟨w.heap.size, 1, none⟩ = some (.bool sb) := HX.out.one 1
  have q1 : W0.cell? ⟨w.heap.size + 1, 1, none⟩ = some (.bool tb) := HX.out.two 1
  have p2 : W0.cell? ⟨w.heap.size, 2, none⟩ = some (.bool sc) := HX.out.one 2
  have q2 : W0.cell? ⟨w.heap.size + 1, 2, none⟩ = some (.bool tc) := HX.out.two 2
  have p3 : W0.cell? ⟨w.heap.size, 3, none⟩ = some (.bool sd) := HX.out.one 3
  have q3 : W0.cell? ⟨w.heap.size + 1, 3, none⟩ = some (.bool td) := HX.out.two 3
  have C0 := Hid.mk (fun u => w_rTruth sa ta u)
  have C1 := Hid.mk (fun u => w_rTruth sb tb u)
  have C2 := Hid.mk (fun u => w_rTruth sc tc u)
  have C3 := Hid.mk (fun u => w_rTruth sd td u)
  obtain ⟨R, hR⟩ : ∃ R, Pl.orI (setC sa ta) (Pl.orI (setC sb tb) (Pl.orI (setC sc tc) (setC sd td))) = R := ⟨_, rfl⟩
  have HQ := Hid.mk hR.symm
  rw [hR]
  clear hR
  generalize setC sa ta = x0 at C0 HQ
  generalize setC sb tb = x1 at C1 HQ
  generalize setC sc tc = x2 at C2 HQ
  generalize setC sd td = x3 at C3 HQ
  go_enter Try.func21, Try.ntmps21
  go_wp2_with fail
  refine (C0.out _).mono ?_
  rintro e w1 ⟨rfl, hw⟩
  obtain rfl := hw.symm
  clear C0
  by_cases h0 : x0 = 0
  · subst h0
    replace HQ : Hid (R = (Pl.orI x1 (Pl.orI x2 x3))) := HQ.out
    go_wp2_with fail
    refine (C1.out _).mono ?_
    rintro e w2 ⟨rfl, hw⟩
    obtain rfl := hw.symm
    clear C1
    by_cases h1 : x1 = 0
    · subst h1
      replace HQ : Hid (R = (Pl.orI x2 x3)) := HQ.out
      go_wp2_with fail
      refine (C2.out _).mono ?_
      rintro e w3 ⟨rfl, hw⟩
      obtain rfl := hw.symm
      clear C2
      by_cases h2 : x2 = 0
      · subst h2
        replace HQ : Hid (R = x3) := HQ.out
        go_wp2_with fail
        refine (C3.out _).mono ?_
        rintro e w4 ⟨rfl, hw⟩
        obtain rfl := hw.symm
        clear C3
        go_wp2_with fail
        go_ret
        exact ⟨by rw [HQ.out]; rfl, HX.out.below⟩
      · have HN : Hid (R = x2) := by show _ = _; rw [HQ.out]; unfold Pl.orI; rw [if_neg h2]
        have h2' : (x2 == 0) = false := by simpa using h2
        clear HQ h2
        go_wp2_with fail
        go_ret
        exact ⟨by rw [HN.out]; rfl, HX.out.below⟩
    · have HN : Hid (R = x1) := by show _ = _; rw [HQ.out]; unfold Pl.orI; rw [if_neg h1]
      have h1' : (x1 == 0) = false := by simpa using h1
      clear HQ h1
      go_wp2_with fail
      go_ret
      exact ⟨by rw [HN.out]; rfl, HX.out.below⟩
  · have HN : Hid (R = x0) := by show _ = _; rw [HQ.out]; unfold Pl.orI; rw [if_neg h0]
    have h0' : (x0 == 0) = false := by simpa using h0
    clear HQ h0
    go_wp2_with fail
    go_ret
    exact ⟨by rw [HN.out]; rfl, HX.out.below⟩
set_option maxRecDepth 100000 in
set_option maxHeartbeats 6400000 in
theorem w_rTextsL (ao : Option Addr) (M ac : Nat) (xs : List (ByteArray)) (bo : Option Addr) (N bc : Nat) (ys : List (ByteArray)) (w : World) (ha : KIn w ao xs) (hb : KIn w bo ys) (hM : xs.length = M) (hN : ys.length = N) (h1 : M ≤ ac) (h2 : N ≤ bc) (h3 : M ≤ 140737488355328) (h4 : N ≤ 140737488355328) :
    Calls Try.prog 24 #[.slice ao M ac, .slice bo N bc] w fun e w' => e = .returned (.int .i64 (listC keyC xs ys)) ∧ Below w.heap.size w w' := by
  have HA := Hid.mk ha
  have HB := Hid.mk hb
  have HM := Hid.mk hM
  have HN := Hid.mk hN
  have HL := Hid.mk (fun u => w_rLens (M : Int) (N : Int) u)
  clear ha hb hM hN
  go_enter Try.func24, Try.ntmps24
  go_wp2_with fail
  go_loopw [5] (fun i wr => ∃ k : Nat, k ≤ M ∧ k ≤ N ∧ i = .int .i64 (k : Int) ∧ Hid (Below w.heap.size w wr) ∧ Hid (listC keyC xs ys = listC keyC (xs.drop k) (ys.drop k))) (fun i _ => M - (intOf i).toNat)
  case atStart => exact ⟨0, Nat.zero_le _, Nat.zero_le _, rfl, Below.refl _ _, rfl⟩
  case round =>
    obtain ⟨k, hk, hk2, rfl, HW, HQ⟩ := hrel
    by_cases hlt : k < M
    · have hl1 : (k : Int) < (M : Int) := by omega
      have hl0 : (0 : Int) ≤ (k : Int) := by omega
      by_cases hlt2 : k < N
      · have hl2 : (k : Int) < (N : Int) := by omega
        have hka : k < xs.length := by rw [HM.out]; exact hlt
        have hkb : k < ys.length := by rw [HN.out]; exact hlt2
        have HS := Hid.mk (listC_step (c := keyC) hka hkb)
        clear HL
        obtain ⟨b1, off1, hp1, hbl1, hrow1⟩ := (HA.out.keep HW.out).row (by omega)
        subst hp1
        have x0 := hrow1 k hka
        rw [getD_key hka] at x0
        obtain ⟨b2, off2, hp2, hbl2, hrow2⟩ := (HB.out.keep HW.out).row (by omega)
        subst hp2
        have y0 := hrow2 k hkb
        rw [getD_key hkb] at y0
        have HC := Hid.mk (fun (d : Nat) (os : Array Obj) => (w_rTexts xs[k] ys[k] (grow (redrawn wr d) os)).mono (fun e w' kq => (⟨kq.1, by rw [kq.2]; exact Below.refl _ _⟩ : e = .returned (.int .i64 (keyC xs[k] ys[k])) ∧ Below (grow (redrawn wr d) os).heap.size (grow (redrawn wr d) os) w')))
        generalize keyC xs[k] ys[k] = c at HC HS
        generalize xs[k] = e1 at *
        generalize ys[k] = e2 at *
        clear hrow1 hrow2 hka hkb
        have Ax0 := fun d os => cell_regrown x0 d os
        have Ay0 := fun d os => cell_regrown y0 d os
        by_cases h0 : c = 0
        · have HN2 : Hid (listC keyC xs ys = listC keyC (xs.drop (k + 1)) (ys.drop (k + 1))) := by show _ = _; rw [HQ.out, HS.out, if_pos h0]
          subst h0
          clear HS HQ
          go_wp2_with fail
          refine wp_region_quiet_below (by kernel_rfl) (by kernel_rfl) ?_
          repeat (go_big_quiet_step (exact Calls.regrown_of (HC.out _ _)))
          refine wpQuiet_nil ?_
          intro w9 hw'
          have hb9 : Below wr.heap.size wr w9 := by
            obtain ⟨⟨dq, osq⟩, rfl⟩ := hw'
            exact below_regrown wr dq osq
          have HW9 := Hid.mk (HW.out.trans (hb9.mono HW.out.size))
          clear hw' hb9 Ax0 x0 Ay0 y0
          go_wp2_with fail
          go_roundw
          case rel => exact ⟨k + 1, hlt, hlt2, by go_num, HW9, HN2⟩
          case measure => simp [intOf]; omega
        · have HN2 : Hid (listC keyC xs ys = c) := by show _ = _; rw [HQ.out, HS.out, if_neg h0]
          have h0' : (c != 0) = true := by simpa using h0
          clear HS HQ h0
          go_wp2_with fail
          refine wp_region_quiet_below (by kernel_rfl) (by kernel_rfl) ?_
          repeat (go_big_quiet_step (exact Calls.regrown_of (HC.out _ _)))
          refine wpQuiet_nil ?_
          intro w9 hw'
          have hb9 : Below wr.heap.size wr w9 := by
            obtain ⟨⟨dq, osq⟩, rfl⟩ := hw'
            exact below_regrown wr dq osq
          have HW9 := Hid.mk (HW.out.trans (hb9.mono HW.out.size))
          clear hw' hb9 Ax0 x0 Ay0 y0
          go_wp2_with fail
          go_ret
          exact ⟨by rw [HN2.out]; rfl, HW9.out⟩
      · have hl2 : ¬ (k : Int) < (N : Int) := by omega
        have HF : Hid (listC keyC xs ys = Pl.cmpI M N) := by show _ = _; rw [HQ.out]; exact lens_end HM.out HN.out hk hk2 (.inr hlt2)
        generalize Pl.cmpI (M : Int) (N : Int) = z at HF HL
        clear HQ HA HB
        go_wp2_with fail
        refine (HL.out _).mono ?_
        rintro e w2 ⟨rfl, hw⟩
        obtain rfl := hw.symm
        go_wp2_with fail
        go_ret
        exact ⟨by rw [HF.out]; rfl, HW.out⟩
    · have hl1 : ¬ (k : Int) < (M : Int) := by omega
      have HF : Hid (listC keyC xs ys = Pl.cmpI M N) := by show _ = _; rw [HQ.out]; exact lens_end HM.out HN.out hk hk2 (.inl hlt)
      generalize Pl.cmpI (M : Int) (N : Int) = z at HF HL
      clear HQ HA HB
      go_wp2_with fail
      refine (HL.out _).mono ?_
      rintro e w2 ⟨rfl, hw⟩
      obtain rfl := hw.symm
      go_wp2_with fail
      go_ret
      exact ⟨by rw [HF.out]; rfl, HW.out⟩
set_option maxRecDepth 100000 in
set_option maxHeartbeats 6400000 in
theorem w_rNumsL (ao : Option Addr) (M ac : Nat) (xs : List (ByteArray × ByteArray)) (bo : Option Addr) (N bc : Nat) (ys : List (ByteArray × ByteArray)) (w : World) (ha : SpIn w ao xs) (hb : SpIn w bo ys) (hM : xs.length = M) (hN : ys.length = N) (h1 : M ≤ ac) (h2 : N ≤ bc) (h3 : M ≤ 140737488355328) (h4 : N ≤ 140737488355328) (kx : ∀ p ∈ xs, (bdk p.1 ∧ bdk p.2) ∧ p.1.size ≤ 140737488355328 ∧ p.2.size ≤ 140737488355328) (ky : ∀ p ∈ ys, (bdk p.1 ∧ bdk p.2) ∧ p.1.size ≤ 140737488355328 ∧ p.2.size ≤ 140737488355328) :
    Calls Try.prog 22 #[.slice ao M ac, .slice bo N bc] w fun e w' => e = .returned (.int .i64 (listC spC xs ys)) ∧ Below w.heap.size w w' := by
  have HA := Hid.mk ha
  have HB := Hid.mk hb
  have HM := Hid.mk hM
  have HN := Hid.mk hN
  have HL := Hid.mk (fun u => w_rLens (M : Int) (N : Int) u)
  have HKX := Hid.mk kx
  have HKY := Hid.mk ky
  clear kx ky
  clear ha hb hM hN
  go_enter Try.func22, Try.ntmps22
  go_wp2_with fail
  go_loopw [5] (fun i wr => ∃ k : Nat, k ≤ M ∧ k ≤ N ∧ i = .int .i64 (k : Int) ∧ Hid (Below w.heap.size w wr) ∧ Hid (listC spC xs ys = listC spC (xs.drop k) (ys.drop k))) (fun i _ => M - (intOf i).toNat)
  case atStart => exact ⟨0, Nat.zero_le _, Nat.zero_le _, rfl, Below.refl _ _, rfl⟩
  case round =>
    obtain ⟨k, hk, hk2, rfl, HW, HQ⟩ := hrel
    by_cases hlt : k < M
    · have hl1 : (k : Int) < (M : Int) := by omega
      have hl0 : (0 : Int) ≤ (k : Int) := by omega
      by_cases hlt2 : k < N
      · have hl2 : (k : Int) < (N : Int) := by omega
        have hka : k < xs.length := by rw [HM.out]; exact hlt
        have hkb : k < ys.length := by rw [HN.out]; exact hlt2
        have HS := Hid.mk (listC_step (c := spC) hka hkb)
        clear HL
        obtain ⟨b1, off1, hp1, hbl1, hrow1⟩ := (HA.out.keep HW.out).row (by omega)
        subst hp1
        obtain ⟨x0, x1⟩ := hrow1 k hka
        obtain ⟨b2, off2, hp2, hbl2, hrow2⟩ := (HB.out.keep HW.out).row (by omega)
        subst hp2
        obtain ⟨y0, y1⟩ := hrow2 k hkb
        have gx := HKX.out _ (List.getElem_mem hka)
        have gy := HKY.out _ (List.getElem_mem hkb)
        have HC := Hid.mk (fun (d : Nat) (os : Array Obj) => w_rBounds xs[k].1 ys[k].1 (-1) (grow (redrawn wr d) os) (.inl rfl) gx.1.1 gy.1.1 gx.2.1 gy.2.1)
        have HD := Hid.mk (fun u => w_rBounds xs[k].2 ys[k].2 1 u (.inr rfl) gx.1.2 gy.1.2 gx.2.2 gy.2.2)
        have HSP : Hid (spC xs[k] ys[k] = Pl.orI (bdC xs[k].1 ys[k].1 (-1)) (bdC xs[k].2 ys[k].2 1)) := rfl
        generalize bdC xs[k].1 ys[k].1 (-1) = c at HC HSP
        generalize bdC xs[k].2 ys[k].2 1 = d at HD HSP
        generalize spC xs[k] ys[k] = s at HS HSP
        generalize xs[k].1 = e1 at *
        generalize ys[k].1 = e2 at *
        generalize xs[k].2 = e3 at *
        generalize ys[k].2 = e4 at *
        clear hrow1 hrow2 hka hkb gx gy
        have Ax0 := fun d os => cell_regrown x0 d os
        have Ay0 := fun d os => cell_regrown y0 d os
        by_cases h0 : c = 0
        · subst h0
          have HSP2 : Hid (s = d) := HSP.out
          clear HSP
          go_wp2_with fail
          refine wp_region_quiet_below (by kernel_rfl) (by kernel_rfl) ?_
          repeat (go_big_quiet_step (exact Calls.regrown_of (HC.out _ _)))
          refine wpQuiet_nil ?_
          intro w9 hw'
          have hb9 : Below wr.heap.size wr w9 := by
            obtain ⟨⟨dq, osq⟩, rfl⟩ := hw'
            exact below_regrown wr dq osq
          have HW9 := Hid.mk (HW.out.trans (hb9.mono HW.out.size))
          replace x1 := (hb9.cell (p := ⟨_, _, _⟩) hbl1).trans x1
          replace y1 := (hb9.cell (p := ⟨_, _, _⟩) hbl2).trans y1
          clear hw' hb9 Ax0 Ay0 x0 y0
          have HE := Hid.mk (fun (d : Nat) (os : Array Obj) => HD.out (grow (redrawn w9 d) os))
          have Ax1 := fun d os => cell_regrown x1 d os
          have Ay1 := fun d os => cell_regrown y1 d os
          by_cases h1 : d = 0
          · have HN2 : Hid (listC spC xs ys = listC spC (xs.drop (k + 1)) (ys.drop (k + 1))) := by show _ = _; rw [HQ.out, HS.out, if_pos (HSP2.out.trans h1)]
            subst h1
            clear HS HQ HSP2
            go_wp2_with fail
            refine wp_region_quiet_below (by kernel_rfl) (by kernel_rfl) ?_
            repeat (go_big_quiet_step (exact Calls.regrown_of (HE.out _ _)))
            refine wpQuiet_nil ?_
            intro w8 hw8
            have hb8 : Below w9.heap.size w9 w8 := by
              obtain ⟨⟨dq, osq⟩, rfl⟩ := hw8
              exact below_regrown w9 dq osq
            have HW8 := Hid.mk (HW9.out.trans (hb8.mono HW9.out.size))
            clear hw8 hb8 Ax1 Ay1 x1 y1
            go_wp2_with fail
            go_roundw
            case rel => exact ⟨k + 1, hlt, hlt2, by go_num, HW8, HN2⟩
            case measure => simp [intOf]; omega
          · have HN2 : Hid (listC spC xs ys = d) := by show _ = _; rw [HQ.out, HS.out, HSP2.out, if_neg h1]
            have h1' : (d != 0) = true := by simpa using h1
            clear HS HQ HSP2 h1
            go_wp2_with fail
            refine wp_region_quiet_below (by kernel_rfl) (by kernel_rfl) ?_
            repeat (go_big_quiet_step (exact Calls.regrown_of (HE.out _ _)))
            refine wpQuiet_nil ?_
            intro w8 hw8
            have hb8 : Below w9.heap.size w9 w8 := by
              obtain ⟨⟨dq, osq⟩, rfl⟩ := hw8
              exact below_regrown w9 dq osq
            have HW8 := Hid.mk (HW9.out.trans (hb8.mono HW9.out.size))
            clear hw8 hb8 Ax1 Ay1 x1 y1
            go_wp2_with fail
            go_ret
            exact ⟨by rw [HN2.out]; rfl, HW8.out⟩
        · have hsc : s = c := by have := HSP.out; rw [this]; unfold Pl.orI; rw [if_neg h0]
          have HN2 : Hid (listC spC xs ys = c) := by show _ = _; rw [HQ.out, HS.out, hsc, if_neg h0]
          have h0' : (c == 0) = false := by simpa using h0
          have h0'' : (c != 0) = true := by simpa using h0
          clear HS HQ HSP h0 hsc
          go_wp2_with fail
          refine wp_region_quiet_below (by kernel_rfl) (by kernel_rfl) ?_
          repeat (go_big_quiet_step (exact Calls.regrown_of (HC.out _ _)))
          refine wpQuiet_nil ?_
          intro w9 hw'
          have hb9 : Below wr.heap.size wr w9 := by
            obtain ⟨⟨dq, osq⟩, rfl⟩ := hw'
            exact below_regrown wr dq osq
          have HW9 := Hid.mk (HW.out.trans (hb9.mono HW.out.size))
          clear hw' hb9 Ax0 Ay0 x0 y0 x1 y1
          go_wp2_with fail
          go_ret
          exact ⟨by rw [HN2.out]; rfl, HW9.out⟩
      · have hl2 : ¬ (k : Int) < (N : Int) := by omega
        have HF : Hid (listC spC xs ys = Pl.cmpI M N) := by show _ = _; rw [HQ.out]; exact lens_end HM.out HN.out hk hk2 (.inr hlt2)
        generalize Pl.cmpI (M : Int) (N : Int) = z at HF HL
        clear HQ HA HB
        go_wp2_with fail
        refine (HL.out _).mono ?_
        rintro e w2 ⟨rfl, hw⟩
        obtain rfl := hw.symm
        go_wp2_with fail
        go_ret
        exact ⟨by rw [HF.out]; rfl, HW.out⟩
    · have hl1 : ¬ (k : Int) < (M : Int) := by omega
      have HF : Hid (listC spC xs ys = Pl.cmpI M N) := by show _ = _; rw [HQ.out]; exact lens_end HM.out HN.out hk hk2 (.inl hlt)
      generalize Pl.cmpI (M : Int) (N : Int) = z at HF HL
      clear HQ HA HB
      go_wp2_with fail
      refine (HL.out _).mono ?_
      rintro e w2 ⟨rfl, hw⟩
      obtain rfl := hw.symm
      go_wp2_with fail
      go_ret
      exact ⟨by rw [HF.out]; rfl, HW.out⟩
end Go.Proofs.Ytahknjhphbpmiaa
namespace Go.Proofs.Ytahknjhphbpmiaa
open Go.RowKit Go.Shelf Go.Sort
set_option linter.unusedVariables false
set_option linter.unusedSimpArgs false
attribute [local go_sem] Oper.semAt_some


/-- the reference's Cmp, at a height -/
def RcT (h : Nat) : Prop := ∀ (A B : TT) (va vb : Value) (w : World), goodT h A → goodT h B → InT w h A va → InT w h B vb → Calls Try.prog 8 #[va, vb] w fun e w' => e = .returned (.int .i64 (cmpTy h A B)) ∧ Below w.heap.size w w'
theorem maxC_neg {a b : Int} (ha : -1 ≤ a ∧ a < 9223372036854775808) (hb : -1 ≤ b ∧ b < 9223372036854775808) (h : a ≠ b) (h1 : a < 0) : maxC a b = 1 := by unfold maxC uiN Pl.cmpI; rw [if_neg (by omega), if_pos (by omega)]
theorem maxC_neg2 {a b : Int} (ha : -1 ≤ a ∧ a < 9223372036854775808) (hb : -1 ≤ b ∧ b < 9223372036854775808) (h1 : ¬ a < 0) (h2 : b < 0) : maxC a b = -1 := by unfold maxC uiN Pl.cmpI; rw [if_pos (by omega)]
theorem maxC_pos {a b : Int} (ha : -1 ≤ a ∧ a < 9223372036854775808) (hb : -1 ≤ b ∧ b < 9223372036854775808) (h1 : ¬ a < 0) (h2 : ¬ b < 0) : maxC a b = Pl.cmpI a b := by
  have e1 : uiN a = a := by unfold uiN; omega
  have e2 : uiN b = b := by unfold uiN; omega
  unfold maxC; rw [e1, e2]
theorem maxC_self (a : Int) : maxC a a = 0 := by unfold maxC Pl.cmpI; rw [if_neg (by omega), if_neg (by omega)]
theorem cmpI_ne {a b : Int} (h : a ≠ b) : Pl.cmpI a b ≠ 0 := by unfold Pl.cmpI; repeat' split
                                                                all_goals omega
set_option maxRecDepth 100000 in
set_option maxHeartbeats 6400000 in
theorem w_rArrsL (h : Nat) (ih : RcT h) (ao : Option Addr) (M ac : Nat) (xs : List (AR)) (bo : Option Addr) (N bc : Nat) (ys : List (AR)) (w : World) (ha : ArIn w h ao xs) (hb : ArIn w h bo ys) (hM : xs.length = M) (hN : ys.length = N) (h1 : M ≤ ac) (h2 : N ≤ bc) (h3 : M ≤ 140737488355328) (h4 : N ≤ 140737488355328) (kx : ∀ a ∈ xs, (-1 ≤ a.max ∧ a.max < 9223372036854775808) ∧ goodT h a.item) (ky : ∀ a ∈ ys, (-1 ≤ a.max ∧ a.max < 9223372036854775808) ∧ goodT h a.item) :
    Calls Try.prog 25 #[.slice ao M ac, .slice bo N bc] w fun e w' => e = .returned (.int .i64 (listC (arC (cmpTy h)) xs ys)) ∧ Below w.heap.size w w' := by
  have HA := Hid.mk ha
  have HB := Hid.mk hb
  have HM := Hid.mk hM
  have HN := Hid.mk hN
  have HL := Hid.mk (fun u => w_rLens (M : Int) (N : Int) u)
  have HKX := Hid.mk kx
  have HKY := Hid.mk ky
  have HIh := Hid.mk ih
  clear kx ky ih
  clear ha hb hM hN
  go_enter Try.func25, Try.ntmps25
  go_wp2_with fail
  go_loopw [5] (fun i wr => ∃ k : Nat, k ≤ M ∧ k ≤ N ∧ i = .int .i64 (k : Int) ∧ Hid (Below w.heap.size w wr) ∧ Hid (listC (arC (cmpTy h)) xs ys = listC (arC (cmpTy h)) (xs.drop k) (ys.drop k))) (fun i _ => M - (intOf i).toNat)
  case atStart => exact ⟨0, Nat.zero_le _, Nat.zero_le _, rfl, Below.refl _ _, rfl⟩
  case round =>
    obtain ⟨k, hk, hk2, rfl, HW, HQ⟩ := hrel
    by_cases hlt : k < M
    · have hl1 : (k : Int) < (M : Int) := by omega
      have hl0 : (0 : Int) ≤ (k : Int) := by omega
      by_cases hlt2 : k < N
      · have hl2 : (k : Int) < (N : Int) := by omega
        have hka : k < xs.length := by rw [HM.out]; exact hlt
        have hkb : k < ys.length := by rw [HN.out]; exact hlt2
        have HS := Hid.mk (listC_step (c := (arC (cmpTy h))) hka hkb)
        clear HL
        obtain ⟨b1, off1, hp1, hbl1, hrow1⟩ := (HA.out.keep HW.out).row (by omega)
        subst hp1
        obtain ⟨u0, u1, u2, u3, u4', u5, u6', u7', u8', hc1, x9, x10, ht⟩ := hrow1 k hka
        obtain ⟨sa, sb, sc, sd, ⟨seo, sen, sec⟩, sf, ⟨sgo, sgn, sgc⟩, ⟨sio, sinn, sic⟩, ⟨sjo, sjn, sjc⟩, eshs⟩ := inT_shape ht
        simp only [Value.agg.injEq, Array.mk.injEq, List.cons.injEq, and_true] at eshs
        obtain ⟨rfl, rfl, rfl, rfl, rfl, rfl, rfl, rfl, rfl⟩ := eshs
        obtain ⟨b2, off2, hp2, hbl2, hrow2⟩ := (HB.out.keep HW.out).row (by omega)
        subst hp2
        obtain ⟨v0, v1, v2, v3, v4, v5, v6, v7, v8, hc2, y9, y10, hu⟩ := hrow2 k hkb
        obtain ⟨ta, tb, tc, td, ⟨teo, ten, tec⟩, tf, ⟨tgo, tgn, tgc⟩, ⟨tio, tinn, tic⟩, ⟨tjo, tjn, tjc⟩, esht⟩ := inT_shape hu
        simp only [Value.agg.injEq, Array.mk.injEq, List.cons.injEq, and_true] at esht
        obtain ⟨rfl, rfl, rfl, rfl, rfl, rfl, rfl, rfl, rfl⟩ := esht
        have gx := HKX.out _ (List.getElem_mem hka)
        have gy := HKY.out _ (List.getElem_mem hkb)
        have HC := Hid.mk (fun (d : Nat) (os : Array Obj) => (w_rLens xs[k].min ys[k].min (grow (redrawn wr d) os)).mono (fun e w' kq => (⟨kq.1, by rw [kq.2]; exact Below.refl _ _⟩ : e = .returned (.int .i64 (Pl.cmpI xs[k].min ys[k].min)) ∧ Below (grow (redrawn wr d) os).heap.size (grow (redrawn wr d) os) w')))
        have HD := Hid.mk (fun u => w_rLens xs[k].max ys[k].max u)
        have HI := Hid.mk (fun u (hu' : Below wr.heap.size wr u) => HIh.out xs[k].item ys[k].item _ _ u gx.2 gy.2 (ht.keep hu') (hu.keep hu'))
        have HXC := Hid.mk (fun u (hu' : Below wr.heap.size wr u) => (⟨(hu'.cell (p := ⟨_, _, _⟩) hbl1).trans x10, (hu'.cell (p := ⟨_, _, _⟩) hbl2).trans y10⟩ : u.cell? ⟨b1, off1 + k * 11 + 10, none⟩ = some (.int .i64 xs[k].max) ∧ u.cell? ⟨b2, off2 + k * 11 + 10, none⟩ = some (.int .i64 ys[k].max)))
        have HXT := Hid.mk (fun u (hu' : Below wr.heap.size wr u) => (⟨hc1.keep hu' hbl1, hc2.keep hu' hbl2⟩ : C9 u b1 (off1 + k * 11) (.bool sa) (.bool sb) (.bool sc) (.bool sd) (.slice seo sen sec) (.bool sf) (.slice sgo sgn sgc) (.slice sio sinn sic) (.slice sjo sjn sjc) ∧ C9 u b2 (off2 + k * 11) (.bool ta) (.bool tb) (.bool tc) (.bool td) (.slice teo ten tec) (.bool tf) (.slice tgo tgn tgc) (.slice tio tinn tic) (.slice tjo tjn tjc)))
        have HAC : Hid (arC (cmpTy h) xs[k] ys[k] = Pl.orI (Pl.orI (Pl.cmpI xs[k].min ys[k].min) (maxC xs[k].max ys[k].max)) (cmpTy h xs[k].item ys[k].item)) := rfl
        have G1 := Hid.mk gx.1
        have G2 := Hid.mk gy.1
        generalize arC (cmpTy h) xs[k] ys[k] = R at HS HAC
        generalize Pl.cmpI xs[k].min ys[k].min = m at HC HAC
        generalize cmpTy h xs[k].item ys[k].item = z at HI HAC
        generalize xs[k].min = m1 at *
        generalize ys[k].min = m2 at *
        generalize xs[k].max = n1 at *
        generalize ys[k].max = n2 at *
        clear hrow1 hrow2 hka hkb gx gy ht hu hc1 hc2 x10 y10
        have Ax9 := fun d os => cell_regrown x9 d os
        have Ay9 := fun d os => cell_regrown y9 d os
        by_cases h0 : m = 0
        · subst h0
          go_wp2_with fail
          refine wp_region_quiet_below (by kernel_rfl) (by kernel_rfl) ?_
          repeat (go_big_quiet_step (exact Calls.regrown_of (HC.out _ _)))
          refine wpQuiet_nil ?_
          intro w9 hw'
          have hbw9 : Below wr.heap.size wr w9 := by
            obtain ⟨⟨dq, osq⟩, rfl⟩ := hw'
            exact below_regrown wr dq osq
          clear hw'
          have HB9 := Hid.mk hbw9
          clear hbw9 Ax9 Ay9 x9 y9 HC
          obtain ⟨x10, y10⟩ := HXC.out w9 HB9.out
          have Ax10 := fun d os => cell_regrown x10 d os
          have Ay10 := fun d os => cell_regrown y10 d os
          by_cases hmx : n1 = n2
          · subst hmx
            have HAC2 : Hid (R = z) := by show _ = _; rw [HAC.out, maxC_self]; rfl
            clear HAC
            go_wp2_with fail
            refine wp_region_quiet_below (by kernel_rfl) (by kernel_rfl) ?_
            repeat (go_big_quiet_step (fail))
            refine wpQuiet_nil ?_
            intro w8 hw'
            have hbw8 : Below w9.heap.size w9 w8 := by
              obtain ⟨⟨dq, osq⟩, rfl⟩ := hw'
              exact below_regrown w9 dq osq
            clear hw'
            have HB8 := Hid.mk (HB9.out.trans (hbw8.mono HB9.out.size))
            have HW8 := Hid.mk (HW.out.trans (HB8.out.mono HW.out.size))
            clear hbw8 Ax10 Ay10 x10 y10
            obtain ⟨⟨p0, p1, p2, p3, p4, p5, p6, p7, p8⟩, ⟨q0, q1, q2, q3, q4, q5, q6, q7, q8⟩⟩ := HXT.out w8 HB8.out
            have Ap0 := fun d os => cell_regrown p0 d os
            have Aq0 := fun d os => cell_regrown q0 d os
            have Ap1 := fun d os => cell_regrown p1 d os
            have Aq1 := fun d os => cell_regrown q1 d os
            have Ap2 := fun d os => cell_regrown p2 d os
            have Aq2 := fun d os => cell_regrown q2 d os
            have Ap3 := fun d os => cell_regrown p3 d os
            have Aq3 := fun d os => cell_regrown q3 d os
            have Ap4 := fun d os => cell_regrown p4 d os
            have Aq4 := fun d os => cell_regrown q4 d os
            have Ap5 := fun d os => cell_regrown p5 d os
            have Aq5 := fun d os => cell_regrown q5 d os
            have Ap6 := fun d os => cell_regrown p6 d os
            have Aq6 := fun d os => cell_regrown q6 d os
            have Ap7 := fun d os => cell_regrown p7 d os
            have Aq7 := fun d os => cell_regrown q7 d os
            have Ap8 := fun d os => cell_regrown p8 d os
            have Aq8 := fun d os => cell_regrown q8 d os
            have HE := Hid.mk (fun (d : Nat) (os : Array Obj) => HI.out (grow (redrawn w8 d) os) (HB8.out.trans ((below_regrown w8 d os).mono HB8.out.size)))
            by_cases h1 : z = 0
            · have HN2 : Hid (listC (arC (cmpTy h)) xs ys = listC (arC (cmpTy h)) (xs.drop (k + 1)) (ys.drop (k + 1))) := by show _ = _; rw [HQ.out, HS.out, if_pos (HAC2.out.trans h1)]
              subst h1
              clear HS HQ HAC2
              go_wp2_with fail
              refine wp_region_quiet_below (by kernel_rfl) (by kernel_rfl) ?_
              repeat (go_big_quiet_step (exact Calls.regrown_of (HE.out _ _)))
              refine wpQuiet_nil ?_
              intro w7 hw'
              have hbw7 : Below w8.heap.size w8 w7 := by
                obtain ⟨⟨dq, osq⟩, rfl⟩ := hw'
                exact below_regrown w8 dq osq
              clear hw'
              have HW7 := Hid.mk (HW8.out.trans (hbw7.mono HW8.out.size))
              clear hbw7 Ap0 p0 Aq0 q0 Ap1 p1 Aq1 q1 Ap2 p2 Aq2 q2 Ap3 p3 Aq3 q3 Ap4 p4 Aq4 q4 Ap5 p5 Aq5 q5 Ap6 p6 Aq6 q6 Ap7 p7 Aq7 q7 Ap8 p8 Aq8 q8
              go_wp2_with fail
              go_roundw
              case rel => exact ⟨k + 1, hlt, hlt2, by go_num, HW7, HN2⟩
              case measure => simp [intOf]; omega
            · have HN2 : Hid (listC (arC (cmpTy h)) xs ys = z) := by show _ = _; rw [HQ.out, HS.out, HAC2.out, if_neg h1]
              have h1' : (z != 0) = true := by simpa using h1
              clear HS HQ HAC2 h1
              go_wp2_with fail
              refine wp_region_quiet_below (by kernel_rfl) (by kernel_rfl) ?_
              repeat (go_big_quiet_step (exact Calls.regrown_of (HE.out _ _)))
              refine wpQuiet_nil ?_
              intro w7 hw'
              have hbw7 : Below w8.heap.size w8 w7 := by
                obtain ⟨⟨dq, osq⟩, rfl⟩ := hw'
                exact below_regrown w8 dq osq
              clear hw'
              have HW7 := Hid.mk (HW8.out.trans (hbw7.mono HW8.out.size))
              clear hbw7 Ap0 p0 Aq0 q0 Ap1 p1 Aq1 q1 Ap2 p2 Aq2 q2 Ap3 p3 Aq3 q3 Ap4 p4 Aq4 q4 Ap5 p5 Aq5 q5 Ap6 p6 Aq6 q6 Ap7 p7 Aq7 q7 Ap8 p8 Aq8 q8
              go_wp2_with fail
              go_ret
              exact ⟨by rw [HN2.out]; rfl, HW7.out⟩
          · have hmx' : (n1 != n2) = true := by simpa using hmx
            by_cases hn1 : n1 < 0
            · have hRv : R = 1 := by rw [HAC.out, maxC_neg G1.out G2.out hmx hn1]; rfl
              have HN2 : Hid (listC (arC (cmpTy h)) xs ys = 1) := by show _ = _; rw [HQ.out, HS.out, hRv]; rfl
              clear hRv HAC HS HQ hmx
              go_wp2_with fail
              refine wp_region_quiet_below (by kernel_rfl) (by kernel_rfl) ?_
              repeat (go_big_quiet_step (fail))
              refine wpQuiet_nil ?_
              intro w8 hw'
              have hbw8 : Below w9.heap.size w9 w8 := by
                obtain ⟨⟨dq, osq⟩, rfl⟩ := hw'
                exact below_regrown w9 dq osq
              clear hw'
              have HB8 := Hid.mk (HB9.out.trans (hbw8.mono HB9.out.size))
              have HW8 := Hid.mk (HW.out.trans (HB8.out.mono HW.out.size))
              clear hbw8 Ax10 Ay10 x10 y10
              obtain ⟨x10, y10⟩ := HXC.out w8 HB8.out
              go_wp2_with fail
              go_ret
              exact ⟨by rw [HN2.out]; rfl, HW8.out⟩
            · by_cases hn2 : n2 < 0
              · have hRv : R = -1 := by rw [HAC.out, maxC_neg2 G1.out G2.out hn1 hn2]; rfl
                have HN2 : Hid (listC (arC (cmpTy h)) xs ys = -1) := by show _ = _; rw [HQ.out, HS.out, hRv]; rfl
                clear hRv HAC HS HQ hmx
                go_wp2_with fail
                refine wp_region_quiet_below (by kernel_rfl) (by kernel_rfl) ?_
                repeat (go_big_quiet_step (fail))
                refine wpQuiet_nil ?_
                intro w8 hw'
                have hbw8 : Below w9.heap.size w9 w8 := by
                  obtain ⟨⟨dq, osq⟩, rfl⟩ := hw'
                  exact below_regrown w9 dq osq
                clear hw'
                have HB8 := Hid.mk (HB9.out.trans (hbw8.mono HB9.out.size))
                have HW8 := Hid.mk (HW.out.trans (HB8.out.mono HW.out.size))
                clear hbw8 Ax10 Ay10 x10 y10
                obtain ⟨x10, y10⟩ := HXC.out w8 HB8.out
                go_wp2_with fail
                go_ret
                exact ⟨by rw [HN2.out]; rfl, HW8.out⟩
              · have hRv : R = Pl.cmpI n1 n2 := by rw [HAC.out, maxC_pos G1.out G2.out hn1 hn2]; show Pl.orI (Pl.cmpI n1 n2) z = _; unfold Pl.orI; rw [if_neg (cmpI_ne hmx)]
                have HN2 : Hid (listC (arC (cmpTy h)) xs ys = Pl.cmpI n1 n2) := by show _ = _; rw [HQ.out, HS.out, hRv, if_neg (cmpI_ne hmx)]
                generalize Pl.cmpI n1 n2 = y at HN2 HD
                clear hRv HAC HS HQ hmx
                go_wp2_with fail
                refine wp_region_quiet_below (by kernel_rfl) (by kernel_rfl) ?_
                repeat (go_big_quiet_step (fail))
                refine wpQuiet_nil ?_
                intro w8 hw'
                have hbw8 : Below w9.heap.size w9 w8 := by
                  obtain ⟨⟨dq, osq⟩, rfl⟩ := hw'
                  exact below_regrown w9 dq osq
                clear hw'
                have HB8 := Hid.mk (HB9.out.trans (hbw8.mono HB9.out.size))
                have HW8 := Hid.mk (HW.out.trans (HB8.out.mono HW.out.size))
                clear hbw8 Ax10 Ay10 x10 y10
                obtain ⟨x10, y10⟩ := HXC.out w8 HB8.out
                have Ax10 := fun d os => cell_regrown x10 d os
                have Ay10 := fun d os => cell_regrown y10 d os
                have HE := Hid.mk (fun (d : Nat) (os : Array Obj) => (HD.out (grow (redrawn w8 d) os)).mono (fun e w' kq => (⟨kq.1, by rw [kq.2]; exact Below.refl _ _⟩ : e = .returned (.int .i64 (y)) ∧ Below (grow (redrawn w8 d) os).heap.size (grow (redrawn w8 d) os) w')))
                go_wp2_with fail
                refine wp_region_quiet_below (by kernel_rfl) (by kernel_rfl) ?_
                repeat (go_big_quiet_step (exact Calls.regrown_of (HE.out _ _)))
                refine wpQuiet_nil ?_
                intro w7 hw'
                have hbw7 : Below w8.heap.size w8 w7 := by
                  obtain ⟨⟨dq, osq⟩, rfl⟩ := hw'
                  exact below_regrown w8 dq osq
                clear hw'
                have HW7 := Hid.mk (HW8.out.trans (hbw7.mono HW8.out.size))
                clear hbw7 Ax10 Ay10 x10 y10
                go_wp2_with fail
                go_ret
                exact ⟨by rw [HN2.out]; rfl, HW7.out⟩
        · have hRv : R = m := by rw [HAC.out]; unfold Pl.orI; simp [h0]
          have HN2 : Hid (listC (arC (cmpTy h)) xs ys = m) := by show _ = _; rw [HQ.out, HS.out, hRv, if_neg h0]
          have h0' : (m == 0) = false := by simpa using h0
          have h0'' : (m != 0) = true := by simpa using h0
          clear hRv HAC HS HQ h0
          go_wp2_with fail
          refine wp_region_quiet_below (by kernel_rfl) (by kernel_rfl) ?_
          repeat (go_big_quiet_step (exact Calls.regrown_of (HC.out _ _)))
          refine wpQuiet_nil ?_
          intro w9 hw'
          have hbw9 : Below wr.heap.size wr w9 := by
            obtain ⟨⟨dq, osq⟩, rfl⟩ := hw'
            exact below_regrown wr dq osq
          clear hw'
          have HB9 := Hid.mk hbw9
          clear hbw9 Ax9 Ay9 x9 y9 HC
          obtain ⟨x10, y10⟩ := HXC.out w9 HB9.out
          have Ax10 := fun d os => cell_regrown x10 d os
          have Ay10 := fun d os => cell_regrown y10 d os
          go_wp2_with fail
          refine wp_region_quiet_below (by kernel_rfl) (by kernel_rfl) ?_
          repeat (go_big_quiet_step (fail))
          refine wpQuiet_nil ?_
          intro w8 hw'
          have hbw8 : Below w9.heap.size w9 w8 := by
            obtain ⟨⟨dq, osq⟩, rfl⟩ := hw'
            exact below_regrown w9 dq osq
          clear hw'
          have HB8 := Hid.mk (HB9.out.trans (hbw8.mono HB9.out.size))
          have HW8 := Hid.mk (HW.out.trans (HB8.out.mono HW.out.size))
          clear hbw8 Ax10 Ay10 x10 y10
          go_wp2_with fail
          go_ret
          exact ⟨by rw [HN2.out]; rfl, HW8.out⟩
      · have hl2 : ¬ (k : Int) < (N : Int) := by omega
        have HF : Hid (listC (arC (cmpTy h)) xs ys = Pl.cmpI M N) := by show _ = _; rw [HQ.out]; exact lens_end HM.out HN.out hk hk2 (.inr hlt2)
        generalize Pl.cmpI (M : Int) (N : Int) = z at HF HL
        clear HQ HA HB
        go_wp2_with fail
        refine (HL.out _).mono ?_
        rintro e w2 ⟨rfl, hw⟩
        obtain rfl := hw.symm
        go_wp2_with fail
        go_ret
        exact ⟨by rw [HF.out]; rfl, HW.out⟩
    · have hl1 : ¬ (k : Int) < (M : Int) := by omega
      have HF : Hid (listC (arC (cmpTy h)) xs ys = Pl.cmpI M N) := by show _ = _; rw [HQ.out]; exact lens_end HM.out HN.out hk hk2 (.inl hlt)
      generalize Pl.cmpI (M : Int) (N : Int) = z at HF HL
      clear HQ HA HB
      go_wp2_with fail
      refine (HL.out _).mono ?_
      rintro e w2 ⟨rfl, hw⟩
      obtain rfl := hw.symm
      go_wp2_with fail
      go_ret
      exact ⟨by rw [HF.out]; rfl, HW.out⟩
end Go.Proofs.Ytahknjhphbpmiaa
