import Derived.Test.YtbfjpmbninlbbabGreatDoorV15
namespace Go.Proofs.YtbfjpmbninlbbabGreatDoor
open Go.RowKit
set_option linter.unusedVariables false
set_option linter.unusedSimpArgs false

theorem Tryz.infoR : (Tryz.prog.info? 21).map (fun i => (i.zero, i.size, i.bytes)) = some (some (.int .i32 0), 1, 4) := by kernel_rfl
theorem own_any {w : World} {base n : Nat} {e : TypeId} {size : Nat} {v : Value} {xs : List Value} (h : w.ownsRow base e size v n xs) (hn : 0 < n) : ∃ g cap, v = .slice (some ⟨g, 0, none⟩) n cap := by
  rcases h.2 with ⟨e, e2⟩ | ⟨g, cap, cur, e, _⟩
  · omega
  · exact ⟨g, cap, e⟩
theorem own_head {w : World} {base : Nat} {e : TypeId} {k : IntKind} {g cap n : Nat} {xs : List Int} (h : w.ownsRow base e 1 (.slice (some ⟨g, 0, none⟩) n cap) n (ivals k xs)) : Head k w g n cap xs := by
  have hs := h
  obtain ⟨hl, h⟩ := h
  have hn : xs.length = n := by
    have : (ivals k xs).length = xs.length := by simp [ivals]
    omega
  rcases h with ⟨h0, _⟩ | ⟨g', cap', cur, hv, hg, hh, hcap, hm, hcs, ht⟩
  · cases h0
  · cases hv
    refine ⟨hn, hcap, (Array.getElem?_eq_some_iff.1 hh).1, fun i hi => ?_⟩
    rw [cell_of_row w g i cur e (0, 0) hh]
    have h1 := ivals_get k xs i (by omega)
    rw [← ht, List.getElem?_take, if_pos (by omega)] at h1
    simpa using h1

set_option maxRecDepth 100000 in
set_option maxHeartbeats 1600000 in
theorem w_twin (v : Value) (xs : List Int) (n : Nat) (w : World) (hv : Ints .i32 w v xs) (hn : xs.length = n) (hl : n ≤ 35184372088832) :
    Calls Tryz.prog 20 #[v] w fun e w' => ∃ g cap, e = .returned (.slice (some ⟨g, 0, none⟩) n cap) ∧ Hid (Head .i32 w' g n cap xs) ∧ Below w.heap.size w w' := by
  obtain ⟨i0, hi0, hz0, hz1, hz2⟩ := info_parts Tryz.infoR
  obtain ⟨ao, cap, rfl, hc, hx⟩ := hv
  have HX := Hid.mk hx
  have HN := Hid.mk hn
  rw [hn] at hc ⊢
  have HS : Hid (CopySt .i32 21 w (w.alloc (.cells #[] 21)) (.slice (some ⟨w.heap.size, 0, none⟩) 0 0) xs 0) := ⟨own_empty w 21, (Below.refl _ _).alloc (Nat.le_refl _) _⟩
  clear hx hn
  go_enter Tryz.func20, Tryz.ntmps20
  go_wp2_with fail
  go_loopw [3, 4] (fun l i wr => ∃ (k : Nat) (g sc : Nat), k ≤ n ∧ l = .slice (some ⟨g, 0, none⟩) k sc ∧ i = .int .i64 k ∧ Hid (CopySt .i32 21 w wr (.slice (some ⟨g, 0, none⟩) k sc) xs k)) (fun _ i _ => n - (intOf i).toNat)
  case atStart => exact ⟨0, _, 0, Nat.zero_le _, rfl, rfl, HS⟩
  case round =>
    obtain ⟨k, g, sc, hk, rfl, rfl, HQ⟩ := hrel
    by_cases hlt : k < n
    · have hk1 : (k : Int) < (n : Int) := by omega
      have hkx : k < xs.length := by rw [HN.out]; exact hlt
      obtain ⟨b, off, rfl, hb, hcell⟩ := HX.out (by omega)
      obtain ⟨x, hxx⟩ : ∃ x, x = xs.getD k 0 := ⟨_, rfl⟩
      have hcx : wr.cell? ⟨b, off + k, none⟩ = some (.int .i32 x) := by
        rw [hxx]; exact (HQ.out.below.cell (p := ⟨b, off + k, none⟩) hb).trans (hcell k hkx)
      have HXX := Hid.mk hxx
      have hown := HQ.out.own
      have HKX := Hid.mk hkx
      have hsz := HQ.out.below.size
      clear hcell hxx hkx
      go_wp2_with (at_builtin; refine wpList_append_own _ rfl _ _ 25 rfl w.heap.size 21 i0 (.int .i32 0) 1 4 Tryz.underlying25 hi0 hz0 hz1 hz2 rfl (by decide) _ _ _ rfl (hown.alloc _) ⟨wr.heap.size, 0, none⟩ 1 1 [.int .i32 x] rfl rfl (by intro j u hj; match j, hj with | 0, hj => simp at hj; subst hj; simp [Addr.add]) (by intro u hu; simp at hu; subst hu; rfl) (by unfold maxLen; omega) (by omega) (by simp; omega) ?_)
      intro v1 w1 hown1 hgrow1 hnn
      obtain ⟨g1, sc1, hv1⟩ := own_any hown1 (Nat.succ_pos _)
      have HN1 : Hid (CopySt .i32 21 w w1 v1 xs (k + 1)) := HQ.out.next HKX.out (by rw [← HXX.out]; exact hown1) hgrow1
      have hv2 : v1 = .slice (some ⟨g1, 0, none⟩) (k + 1) sc1 := hv1
      subst hv2
      clear hown1 hgrow1 hnn hown hcx hv1
      go_wp2_with fail
      go_roundw
      case rel => exact ⟨k + 1, g1, sc1, by omega, rfl, by go_num, HN1⟩
      case measure => simp [intOf]; omega
    · have hk1 : ¬ (k : Int) < (n : Int) := by omega
      have hkn : k = n := by omega
      subst hkn
      have HF : Hid (Head .i32 wr g k sc xs) := by
        have := HQ.out.own
        rw [List.take_of_length_le (by rw [HN.out]; exact Nat.le_refl _)] at this
        exact own_head this
      go_wp2_with fail
      go_ret
      exact ⟨g, sc, rfl, HF, HQ.out.below⟩

set_option maxRecDepth 100000 in
set_option maxHeartbeats 1600000 in
theorem w_IsRune (x : Int) (w : World) :
    Calls Tryz.prog 57 #[.int .i64 x] w fun e w' => e = .returned (.bool (Lib.validRune x)) ∧ w' = w := by
  have HV : Hid (Lib.validRune x = decide ((0 ≤ x ∧ x < 0xD800) ∨ (0xDFFF < x ∧ x ≤ 0x10FFFF))) := rfl
  rcases (show x < 0 ∨ (0 ≤ x ∧ ¬ x ≤ 1114111) ∨ (0 ≤ x ∧ x ≤ 1114111 ∧ x < 55296) ∨ (0 ≤ x ∧ x ≤ 1114111 ∧ ¬ x < 55296 ∧ 57343 < x) ∨ (0 ≤ x ∧ x ≤ 1114111 ∧ ¬ x < 55296 ∧ ¬ 57343 < x) by omega) with h | ⟨h, h1⟩ | ⟨h, h1, h2⟩ | ⟨h, h1, h2, h3⟩ | ⟨h, h1, h2, h3⟩
  · have HF : Hid (Lib.validRune x = false) := by show _ = _; rw [HV.out]; exact decide_eq_false (by omega)
    have h' : ¬ 0 ≤ x := by omega
    go_enter Tryz.func57, Tryz.ntmps57
    go_wp2_with fail
    go_ret
    exact ⟨by rw [HF.out]; rfl, rfl⟩
  · have HF : Hid (Lib.validRune x = false) := by show _ = _; rw [HV.out]; exact decide_eq_false (by omega)
    go_enter Tryz.func57, Tryz.ntmps57
    go_wp2_with fail
    go_ret
    exact ⟨by rw [HF.out]; rfl, rfl⟩
  · have HF : Hid (Lib.validRune x = true) := by show _ = _; rw [HV.out]; exact decide_eq_true (by omega)
    go_enter Tryz.func57, Tryz.ntmps57
    go_wp2_with fail
    go_ret
    exact ⟨by rw [HF.out]; rfl, rfl⟩
  · have HF : Hid (Lib.validRune x = true) := by show _ = _; rw [HV.out]; exact decide_eq_true (by omega)
    go_enter Tryz.func57, Tryz.ntmps57
    go_wp2_with fail
    go_ret
    exact ⟨by rw [HF.out]; rfl, rfl⟩
  · have HF : Hid (Lib.validRune x = false) := by show _ = _; rw [HV.out]; exact decide_eq_false (by omega)
    go_enter Tryz.func57, Tryz.ntmps57
    go_wp2_with fail
    go_ret
    exact ⟨by rw [HF.out]; rfl, rfl⟩

theorem txt_rn (xs : List Int) : (xs.flatMap fun z => enc (rn z)) = txt (xs.map rn) := by
  unfold txt; rw [List.flatMap_map]
theorem map_rn_isR (xs : List Int) : ∀ z ∈ xs.map rn, isR z := by
  intro z hz
  obtain ⟨x, _, rfl⟩ := List.mem_map.1 hz
  exact rn_isR x
theorem get_rn (xs : List Int) (i : Nat) (h : i < xs.length) : (toI (xs.map rn)).getD i 0 = if Lib.validRune (xs.getD i 0) then xs.getD i 0 else 65533 := by
  rw [toI_get, List.getD_eq_getElem?_getD, List.getElem?_map, List.getElem?_eq_getElem h, List.getD_eq_getElem?_getD, List.getElem?_eq_getElem h]
  show ((rn xs[i] : Nat) : Int) = if Lib.validRune xs[i] then xs[i] else 65533
  unfold rn
  cases hv : Lib.validRune xs[i] with
  | true =>
    have hv' : decide ((0 ≤ xs[i] ∧ xs[i] < 0xD800) ∨ (0xDFFF < xs[i] ∧ xs[i] ≤ 0x10FFFF)) = true := hv
    have := of_decide_eq_true hv'
    simp only [if_true]
    omega
  | false => rfl
end Go.Proofs.YtbfjpmbninlbbabGreatDoor
