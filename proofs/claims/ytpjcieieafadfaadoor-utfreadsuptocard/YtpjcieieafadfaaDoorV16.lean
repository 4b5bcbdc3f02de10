import Derived.Test.YtpjcieieafadfaaDoorV15
namespace Go.Proofs.YtpjcieieafadfaaDoor
open Go.RowKit
set_option linter.unusedVariables false
set_option linter.unusedSimpArgs false

theorem Tryd.infoR : (Tryd.prog.info? 21).map (fun i => (i.zero, i.size, i.bytes)) = some (some (.int .i32 0), 1, 4) := by kernel_rfl
theorem own_any {w : World} {base n : Nat} {e : TypeId} {size : Nat} {v : Value} {xs : List Value} (h : w.ownsRow base e size v n xs) (hn : 0 < n) : ∃ g cap, v = .slice (some ⟨g, 0, none⟩) n cap := by
  rcases h.2 with ⟨e, e2⟩ | ⟨g, cap, cur, e, _⟩
  · omega
  · exact ⟨g, cap, e⟩
theorem own_head {w : World} {base : Nat} {e : TypeId} {k : IntKind} {g cap n : Nat} {xs : List Int} (h : w.ownsRow base e 1 (.slice (some ⟨g, 0, none⟩) n cap) n (ivals k xs)) : Head k w g n cap xs := by
  have hs := h
  obtain ⟨hl, h⟩ := h
  have hn : xs.length = n := by
    have : (ivals k xs).length = xs.length := by simp [ivals]
    omega
  rcases h with ⟨h0, _⟩ | ⟨g', cap', cur, hv, hg, hh, hcap, hm, hcs, ht⟩
  · cases h0
  · cases hv
    refine ⟨hn, hcap, (Array.getElem?_eq_some_iff.1 hh).1, fun i hi => ?_⟩
    rw [cell_of_row w g i cur e (0, 0) hh]
    have h1 := ivals_get k xs i (by omega)
    rw [← ht, List.getElem?_take, if_pos (by omega)] at h1
    simpa using h1

set_option maxRecDepth 100000 in
set_option maxHeartbeats 1600000 in
theorem w_IsRune (x : Int) (w : World) :
    Calls Tryd.prog 56 #[.int .i64 x] w fun e w' => e = .returned (.bool (Lib.validRune x)) ∧ w' = w := by
  have HV : Hid (Lib.validRune x = decide ((0 ≤ x ∧ x < 0xD800) ∨ (0xDFFF < x ∧ x ≤ 0x10FFFF))) := rfl
  rcases (show x < 0 ∨ (0 ≤ x ∧ ¬ x ≤ 1114111) ∨ (0 ≤ x ∧ x ≤ 1114111 ∧ x < 55296) ∨ (0 ≤ x ∧ x ≤ 1114111 ∧ ¬ x < 55296 ∧ 57343 < x) ∨ (0 ≤ x ∧ x ≤ 1114111 ∧ ¬ x < 55296 ∧ ¬ 57343 < x) by omega) with h | ⟨h, h1⟩ | ⟨h, h1, h2⟩ | ⟨h, h1, h2, h3⟩ | ⟨h, h1, h2, h3⟩
  · have HF : Hid (Lib.validRune x = false) := by show _ = _; rw [HV.out]; exact decide_eq_false (by omega)
    have h' : ¬ 0 ≤ x := by omega
    go_enter Tryd.func56, Tryd.ntmps56
    go_wp2_with fail
    go_ret
    exact ⟨by rw [HF.out]; rfl, rfl⟩
  · have HF : Hid (Lib.validRune x = false) := by show _ = _; rw [HV.out]; exact decide_eq_false (by omega)
    go_enter Tryd.func56, Tryd.ntmps56
    go_wp2_with fail
    go_ret
    exact ⟨by rw [HF.out]; rfl, rfl⟩
  · have HF : Hid (Lib.validRune x = true) := by show _ = _; rw [HV.out]; exact decide_eq_true (by omega)
    go_enter Tryd.func56, Tryd.ntmps56
    go_wp2_with fail
    go_ret
    exact ⟨by rw [HF.out]; rfl, rfl⟩
  · have HF : Hid (Lib.validRune x = true) := by show _ = _; rw [HV.out]; exact decide_eq_true (by omega)
    go_enter Tryd.func56, Tryd.ntmps56
    go_wp2_with fail
    go_ret
    exact ⟨by rw [HF.out]; rfl, rfl⟩
  · have HF : Hid (Lib.validRune x = false) := by show _ = _; rw [HV.out]; exact decide_eq_false (by omega)
    go_enter Tryd.func56, Tryd.ntmps56
    go_wp2_with fail
    go_ret
    exact ⟨by rw [HF.out]; rfl, rfl⟩

theorem txt_rn (xs : List Int) : (xs.flatMap fun z => enc (rn z)) = txt (xs.map rn) := by
  unfold txt; rw [List.flatMap_map]
theorem map_rn_isR (xs : List Int) : ∀ z ∈ xs.map rn, isR z := by
  intro z hz
  obtain ⟨x, _, rfl⟩ := List.mem_map.1 hz
  exact rn_isR x
theorem get_rn (xs : List Int) (i : Nat) (h : i < xs.length) : (toI (xs.map rn)).getD i 0 = if Lib.validRune (xs.getD i 0) then xs.getD i 0 else 65533 := by
  rw [toI_get, List.getD_eq_getElem?_getD, List.getElem?_map, List.getElem?_eq_getElem h, List.getD_eq_getElem?_getD, List.getElem?_eq_getElem h]
  show ((rn xs[i] : Nat) : Int) = if Lib.validRune xs[i] then xs[i] else 65533
  unfold rn
  cases hv : Lib.validRune xs[i] with
  | true =>
    have hv' : decide ((0 ≤ xs[i] ∧ xs[i] < 0xD800) ∨ (0xDFFF < xs[i] ∧ xs[i] ≤ 0x10FFFF)) = true := hv
    have := of_decide_eq_true hv'
    simp only [if_true]
    omega
  | false => rfl
end Go.Proofs.YtpjcieieafadfaaDoor
