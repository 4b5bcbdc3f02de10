import Derived.Test.YtfjmgccbpiolhaaGreatDoorMW24
import Derived.Test.YtfjmgccbpiolhaaGreatDoorMW20
import Derived.Lib.QuietBelow
import Derived.BigQuiet
namespace Go.Proofs.YtfjmgccbpiolhaaGreatDoor
open Go.RowKit Go.Shelf Go.Sort
set_option linter.unusedVariables false
set_option linter.unusedSimpArgs false
attribute [local go_sem] Oper.semAt_some

theorem mark_in (W : World) (key : ByteArray) (hk : key.size ≤ 140737488355328) : InH W 1 (.mk (-1) key .empty [] []) (.agg #[.int .i64 (-1), .string key, .string ⟨#[]⟩, .slice none 0 0, .slice none 0 0]) :=
  ⟨none, 0, none, 0, rfl, hk, Nat.zero_le _, Nat.zero_le _, Nat.zero_le _, Nat.le_refl _, Nat.le_refl _, (fun k hk => by cases hk), ⟨fun h => absurd h (by show ¬ 0 < 0; omega)⟩, fun h => absurd h (by show ¬ 0 < 0; omega)⟩
theorem w_SameMarkV (key : ByteArray) (hk : key.size ≤ 140737488355328) (w : World) : Calls Tryz.prog 29 #[.agg #[.int .i64 (-1), .string key, .string ⟨#[]⟩, .slice none 0 0, .slice none 0 0], .agg #[.int .i64 (-1), .string key, .string ⟨#[]⟩, .slice none 0 0, .slice none 0 0]] w fun e w' => e = .returned (.bool true) ∧ Below w.heap.size w w' := by
  have h := w_SameValue 1 _ _ _ _ w (mark_in w key hk) (mark_in w key hk)
  rw [sm_yes] at h
  exact h

set_option maxRecDepth 100000 in
set_option maxHeartbeats 3200000 in
theorem w_keptV (B n : Nat) (v : Value) (xs : List Value) (w : World) (hown : w.ownsRow (B + 1) 22 1 v n xs) (hm : ∀ x ∈ xs, MkR w B 4 x) (hn : n ≤ 4398046511104) :
    Calls Tryz.prog 34 #[v] w fun e w' => e = .returned (.bool true) ∧ Below w.heap.size w w' := by
  rcases hown.2 with ⟨rfl, rfl⟩ | ⟨g, cap, cur, rfl, e1, e2, e3, e4, e5, e6⟩
  · exact (w_keptValues0 w).mono fun e w' ⟨h1, h2⟩ => ⟨h1, by rw [h2]; exact Below.refl _ _⟩
  · have hlen : xs.length = n := by have := hown.1; omega
    have hgl : g < w.heap.size := (Array.getElem?_eq_some_iff.1 e2).1
    have hcell : ∀ k, (hk : k < xs.length) → w.cell? ⟨g, k, none⟩ = some xs[k] := fun k hk => by
      have h1 : w.cell? ⟨g, k, none⟩ = cur[k]? := cell_of_row _ _ _ _ _ _ e2
      have h2 : xs[k]? = some xs[k] := List.getElem?_eq_getElem hk
      rw [h1]
      rw [← h2]
      conv => rhs; rw [← e6]
      rw [List.getElem?_take, if_pos (by omega), Array.getElem?_toList]
    have HCL := Hid.mk hcell
    have HM := Hid.mk hm
    have HLN := Hid.mk hlen
    clear hown e1 e2 e4 e5 e6 hcell hm hlen
    go_enter Tryz.func34, Tryz.ntmps34
    go_wp2_with fail
    go_loopw [3] (fun i wr => ∃ k : Nat, k ≤ n ∧ i = .int .i64 (k : Int) ∧ Hid (Below w.heap.size w wr)) (fun i _ => n - (intOf i).toNat)
    case atStart => exact ⟨0, Nat.zero_le _, rfl, Below.refl _ _⟩
    case round =>
      obtain ⟨k, hk, rfl, HB⟩ := hrel
      by_cases hlt : k < n
      · have hl1 : (k : Int) < (n : Int) := by omega
        have hl0 : (0 : Int) ≤ (k : Int) := by omega
        have hkl : k < xs.length := by rw [HLN.out]; exact hlt
        have c0 := (HB.out.cell (p := ⟨g, k, none⟩) hgl).trans (HCL.out k hkl)
        obtain ⟨q, nn, cp, cu, hx, f1, f2, f3, f4, f5, f6⟩ := HM.out _ (List.getElem_mem hkl)
        rw [hx] at c0
        obtain ⟨P, rfl⟩ : ∃ P, nn = P + 16 := ⟨nn - 16, by omega⟩
        have hql : q < w.heap.size := (Array.getElem?_eq_some_iff.1 f5).1
        have HMK : Hid (∀ i, i < 16 → ∀ j u, (lnM 4 i)[j]? = some u → w.cell? ⟨q, (P + i) * 5 + j, none⟩ = some u) := fun i hi j u hu => by
          have h1 : w.cell? ⟨q, (P + i) * 5 + j, none⟩ = cu[(P + i) * 5 + j]? := cell_of_row _ _ _ _ _ _ f5
          rw [h1]
          have h2 := f6 i hi j u hu
          have e : (P + 16 - 16 + i) * lnZ 4 + j = (P + i) * 5 + j := by show (P + 16 - 16 + i) * 5 + j = _; rw [Nat.add_sub_cancel]
          rw [e] at h2
          exact h2
        clear hx f5 f6 hkl f1
        go_wp2_with fail
        go_loopw [5] (fun i wr => ∃ m : Nat, m ≤ 16 ∧ i = .int .i64 (m : Int) ∧ Hid (Below w.heap.size w wr)) (fun i _ => 16 - (intOf i).toNat)
        case atStart => exact ⟨0, Nat.zero_le _, rfl, HB⟩
        case round =>
          clear HB c0
          obtain ⟨m, hm, rfl, HB⟩ := hrel
          by_cases hlt2 : m < 16
          · have hm1 : (m : Int) < 16 := by omega
            have hm0 : (0 : Int) ≤ (m : Int) := by omega
            have HC := Hid.mk (fun u => w_lmarkV m u (by omega))
            have k0 : w.cell? ⟨q, (P + m) * 5, none⟩ = some (.int .i64 (-1)) := HMK.out m hlt2 0 (.int .i64 (-1)) rfl
            have k1 := HMK.out m hlt2 1 (.string (wbL m)) rfl
            have k2 := HMK.out m hlt2 2 (.string ⟨#[]⟩) rfl
            have k3 := HMK.out m hlt2 3 (.slice none 0 0) rfl
            have k4 := HMK.out m hlt2 4 (.slice none 0 0) rfl
            have HSM := Hid.mk (fun u => w_SameMarkV (wbL m) (by show 8 ≤ 140737488355328; decide) u)
            generalize wbL m = key at HC k1 HSM
            have HK := Hid.mk (And.intro k0 (And.intro k1 (And.intro k2 (And.intro k3 k4))))
            clear k0 k1 k2 k3 k4
            go_wp2_with fail
            refine (HC.out _).mono ?_
            rintro e w4 ⟨rfl, hb4⟩
            have hB4 : Below w.heap.size w w4 := HB.out.trans (hb4.mono HB.out.size)
            obtain ⟨W5, hW5⟩ : ∃ W5, w4.alloc (.cells #[.int .i64 (-1), .string key, .string ⟨#[]⟩, .slice none 0 0, .slice none 0 0] 49) = W5 := ⟨_, rfl⟩
            have hb5 : Below w4.heap.size w4 W5 := by rw [← hW5]; exact below1 w4 _
            have hbx : W5.heap[w4.heap.size]? = some (.cells #[.int .i64 (-1), .string key, .string ⟨#[]⟩, .slice none 0 0, .slice none 0 0] 49 (0, 0)) := by rw [← hW5]; exact heap_alloc_new w4 _
            have hB5 : Below w.heap.size w W5 := hB4.trans (hb5.mono hB4.size)
            have HB5 := Hid.mk hB5
            obtain ⟨k0, k1, k2, k3, k4⟩ := HK.out
            obtain ⟨z0, z1, z2, z3, z4, _⟩ := vboxL_cells hbx
            have R0 := fun d os => cell_regrown ((hB5.cell (p := ⟨q, (P + m) * 5, none⟩) hql).trans k0) d os
            have R1 := fun d os => cell_regrown ((hB5.cell (p := ⟨q, (P + m) * 5 + 1, none⟩) hql).trans k1) d os
            have R2 := fun d os => cell_regrown ((hB5.cell (p := ⟨q, (P + m) * 5 + 2, none⟩) hql).trans k2) d os
            have R3 := fun d os => cell_regrown ((hB5.cell (p := ⟨q, (P + m) * 5 + 3, none⟩) hql).trans k3) d os
            have R4 := fun d os => cell_regrown ((hB5.cell (p := ⟨q, (P + m) * 5 + 4, none⟩) hql).trans k4) d os
            have S0 := fun d os => cell_regrown z0 d os
            have S1 := fun d os => cell_regrown z1 d os
            have S2 := fun d os => cell_regrown z2 d os
            have S3 := fun d os => cell_regrown z3 d os
            have S4 := fun d os => cell_regrown z4 d os
            have i1 : (0 : Int) ≤ (P : Int) + (m : Int) := by omega
            have i2 : (P : Int) + (m : Int) < (P : Int) + 16 := by omega
            have i3 : (P : Int) ≤ 1099511627776 := by omega
            have i4 : ((P : Int) + (m : Int)).toNat = P + m := by omega
            have HW5 := Hid.mk hW5
            clear hb4 HC HK hb5 hbx hB4 hB5 k0 k1 k2 k3 k4 z0 z1 z2 z3 z4 hW5
            go_wp2_with fail
            rw [HW5.out]
            refine wp_region_quiet_below (by kernel_rfl) (by kernel_rfl) ?_
            repeat (go_big_quiet_step (exact Calls.regrown_of (HSM.out _)))
            refine wpQuiet_nil ?_
            intro wz hw'
            have HBz : Hid (Below w.heap.size w wz) := by
              obtain ⟨⟨dq, osq⟩, rfl⟩ := hw'
              exact HB5.out.trans ((below_regrown W5 dq osq).mono HB5.out.size)
            clear hw'
            go_wp2_with fail
            go_roundw
            case rel => exact ⟨m + 1, by omega, by go_num, HBz⟩
            case measure => simp [intOf]; omega
          · have hm1 : ¬ (m : Int) < 16 := by omega
            go_wp2_with fail
            go_roundw
            case rel => exact ⟨k + 1, by omega, by go_num, HB⟩
            case measure => simp [intOf]; omega
      · have hl1 : ¬ (k : Int) < (n : Int) := by omega
        go_wp2_with fail
        go_ret
        exact ⟨rfl, HB.out⟩
end Go.Proofs.YtfjmgccbpiolhaaGreatDoor
namespace Go.Proofs.YtfjmgccbpiolhaaGreatDoor
open Go.RowKit Go.Shelf Go.Sort
set_option linter.unusedVariables false
set_option linter.unusedSimpArgs false
attribute [local go_sem] Oper.semAt_some

theorem LnAt.cell {B : Nat} {w : World} {c : Nat → Value} {n : Nat → Nat} {xs : Nat → List Value} (h : LnAt B w c n xs) {j : Nat} {v : Value} (hv : #[c 0, c 1, c 2, c 3, c 4, c 5, c 6, c 7, c 8, c 9, c 10, c 11, c 12, c 13, c 14, c 15][j]? = some v) : w.cell? ⟨B, j, none⟩ = some v := (cell_of_row _ _ j _ _ _ h.box).trans hv

set_option maxRecDepth 100000 in
set_option maxHeartbeats 3200000 in
theorem w_Kept (B : Nat) (w : World) (c : Nat → Value) (n : Nat → Nat) (xs : Nat → List Value) (hL : LnAt B w c n xs) (h0 : n 0 ≤ 4398046511104) (h4 : n 4 ≤ 4398046511104) :
    Calls Tryz.prog 13 #[.pointer (some ⟨B, 0, none⟩)] w fun e w' => e = .returned (.bool true) ∧ Below w.heap.size w w' := by
  have HS := Hid.mk (w_keptS B (n 0) (c 0) (xs 0) w (hL.own 0) (hL.mks 0 (.inl rfl)) h0)
  have HV := Hid.mk (fun u (hb : Below w.heap.size w u) => w_keptV B (n 4) (c 4) (xs 4) u ((hL.keep hb).own 4) ((hL.keep hb).mks 4 (.inr rfl)) h4)
  have c0 : w.cell? ⟨B, 0, none⟩ = some (c 0) := hL.cell rfl
  have HL := Hid.mk hL
  have hn := hL.nil
  have HNL := Hid.mk hn
  clear hL h0 h4 hn
  generalize hc0 : c 0 = v0 at c0 HS
  clear hc0
  go_enter Tryz.func13, Tryz.ntmps13
  go_wp2_with fail
  refine HS.out.mono ?_
  rintro e w1 ⟨rfl, hb1⟩
  have HB1 := Hid.mk hb1
  have HL1 := Hid.mk (HL.out.keep hb1)
  clear hb1 c0 HS
  have c1 : w1.cell? ⟨B, 1, none⟩ = some (.slice none 0 0) := (HL1.out.cell rfl).trans (congrArg some (HNL.out 1 (by omega) (by omega)))
  have c2 : w1.cell? ⟨B, 2, none⟩ = some (.slice none 0 0) := (HL1.out.cell rfl).trans (congrArg some (HNL.out 2 (by omega) (by omega)))
  have c3 : w1.cell? ⟨B, 3, none⟩ = some (.slice none 0 0) := (HL1.out.cell rfl).trans (congrArg some (HNL.out 3 (by omega) (by omega)))
  have c4 : w1.cell? ⟨B, 4, none⟩ = some (c 4) := HL1.out.cell rfl
  have HV1 := Hid.mk (HV.out w1 HB1.out)
  generalize hc4 : c 4 = v4 at c4 HV1
  clear hc4 HV
  go_wp2_with fail
  refine (w_keptBools0 _).mono ?_
  rintro e w' ⟨rfl, he⟩
  subst he
  go_wp2_with fail
  refine (w_keptInts0 _).mono ?_
  rintro e w' ⟨rfl, he⟩
  subst he
  go_wp2_with fail
  refine (w_keptBytes0 _).mono ?_
  rintro e w' ⟨rfl, he⟩
  subst he
  go_wp2_with fail
  refine HV1.out.mono ?_
  rintro e w2 ⟨rfl, hb2⟩
  have HB2 := Hid.mk (HB1.out.trans (hb2.mono HB1.out.size))
  have HL2 := Hid.mk (HL1.out.keep hb2)
  clear hb2 c1 c2 c3 c4 HV1
  have c5 : w2.cell? ⟨B, 5, none⟩ = some (.slice none 0 0) := (HL2.out.cell rfl).trans (congrArg some (HNL.out 5 (by omega) (by omega)))
  have c6 : w2.cell? ⟨B, 6, none⟩ = some (.slice none 0 0) := (HL2.out.cell rfl).trans (congrArg some (HNL.out 6 (by omega) (by omega)))
  have c7 : w2.cell? ⟨B, 7, none⟩ = some (.slice none 0 0) := (HL2.out.cell rfl).trans (congrArg some (HNL.out 7 (by omega) (by omega)))
  have c8 : w2.cell? ⟨B, 8, none⟩ = some (.slice none 0 0) := (HL2.out.cell rfl).trans (congrArg some (HNL.out 8 (by omega) (by omega)))
  have c9 : w2.cell? ⟨B, 9, none⟩ = some (.slice none 0 0) := (HL2.out.cell rfl).trans (congrArg some (HNL.out 9 (by omega) (by omega)))
  have c10 : w2.cell? ⟨B, 10, none⟩ = some (.slice none 0 0) := (HL2.out.cell rfl).trans (congrArg some (HNL.out 10 (by omega) (by omega)))
  have c11 : w2.cell? ⟨B, 11, none⟩ = some (.slice none 0 0) := (HL2.out.cell rfl).trans (congrArg some (HNL.out 11 (by omega) (by omega)))
  have c12 : w2.cell? ⟨B, 12, none⟩ = some (.slice none 0 0) := (HL2.out.cell rfl).trans (congrArg some (HNL.out 12 (by omega) (by omega)))
  have c13 : w2.cell? ⟨B, 13, none⟩ = some (.slice none 0 0) := (HL2.out.cell rfl).trans (congrArg some (HNL.out 13 (by omega) (by omega)))
  have c14 : w2.cell? ⟨B, 14, none⟩ = some (.slice none 0 0) := (HL2.out.cell rfl).trans (congrArg some (HNL.out 14 (by omega) (by omega)))
  have c15 : w2.cell? ⟨B, 15, none⟩ = some (.slice none 0 0) := (HL2.out.cell rfl).trans (congrArg some (HNL.out 15 (by omega) (by omega)))
  go_wp2_with fail
  refine (w_keptTokens0 _).mono ?_
  rintro e w' ⟨rfl, he⟩
  subst he
  go_wp2_with fail
  refine (w_keptSpans0 _).mono ?_
  rintro e w' ⟨rfl, he⟩
  subst he
  go_wp2_with fail
  refine (w_keptArrs0 _).mono ?_
  rintro e w' ⟨rfl, he⟩
  subst he
  go_wp2_with fail
  refine (w_keptObjs0 _).mono ?_
  rintro e w' ⟨rfl, he⟩
  subst he
  go_wp2_with fail
  refine (w_keptTypes0 _).mono ?_
  rintro e w' ⟨rfl, he⟩
  subst he
  go_wp2_with fail
  refine (w_keptNodes0 _).mono ?_
  rintro e w' ⟨rfl, he⟩
  subst he
  go_wp2_with fail
  refine (w_keptResults0 _).mono ?_
  rintro e w' ⟨rfl, he⟩
  subst he
  go_wp2_with fail
  refine (w_keptTypeds0 _).mono ?_
  rintro e w' ⟨rfl, he⟩
  subst he
  go_wp2_with fail
  refine (w_keptCodes0 _).mono ?_
  rintro e w' ⟨rfl, he⟩
  subst he
  go_wp2_with fail
  refine (w_keptReasons0 _).mono ?_
  rintro e w' ⟨rfl, he⟩
  subst he
  go_wp2_with fail
  refine (w_keptVerdicts0 _).mono ?_
  rintro e w' ⟨rfl, he⟩
  subst he
  go_wp2_with fail
  go_ret
  exact ⟨rfl, HB2.out⟩
end Go.Proofs.YtfjmgccbpiolhaaGreatDoor
