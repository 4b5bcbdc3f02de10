import Derived.Test.YtfcbeohkhljboaaDoorM1
namespace Go.Proofs.YtfcbeohkhljboaaDoor
open Go.RowKit
set_option linter.unusedVariables false
set_option linter.unusedSimpArgs false

theorem ret_bool {a b : Bool} (h : a = b) : Ending.returned (.bool a) = .returned (.bool b) := by rw [h]

set_option maxHeartbeats 400000 in
theorem w_Formed (s : ByteArray) (w : World) (hs : s.size ≤ maxLen) :
    Calls Tryd.prog 12 #[.string s] w fun e w' => e = .returned (.bool (Pl.formed s.data.toList)) ∧ Below w.heap.size w w' := by
  by_cases h48 : s.toList = [48]
  · have hb : (s.toList == [48]) = true := by simp [h48]
    have HF : Hid (Pl.formed s.data.toList = true) := Pl.formed_48 _ (by rw [← Lib.toList_data]; exact h48)
    clear h48
    go_enter Tryd.func12, Tryd.ntmps12
    go_wp2
    go_ret
    exact ⟨by rw [HF.out]; rfl, Below.refl _ _⟩
  · have hb : (s.toList == [48]) = false := by simp [h48]
    have HF : Hid (Pl.formed s.data.toList = Pl.plainB (Pl.body s.data.toList)) := Pl.formed_not _ (by rw [← Lib.toList_data]; exact h48)
    clear h48
    go_enter Tryd.func12, Tryd.ntmps12
    go_wp2_with fail
    refine (w_cutMinus s _ hs).mono ?_
    rintro e w1 ⟨r, rfl, hr, hsz, hbel⟩
    have HF' : Hid (Pl.formed s.data.toList = Pl.plainB r.data.toList) := by show _ = _; rw [HF.out, hr]
    unfold maxLen at hs
    clear HF hr hb
    by_cases h0 : r.size = 0
    · have he : r.toList.isEmpty = true := by rw [Pl.isEmpty_of]; simp [h0]
      have HP : Hid (Pl.plainB r.data.toList = false) := Pl.plainB_empty r h0
      clear h0
      go_wp2
      go_ret
      exact ⟨by rw [HF'.out, HP.out]; rfl, hbel⟩
    · have hp : 0 < r.size := by omega
      have he : r.toList.isEmpty = false := by rw [Pl.isEmpty_of]; simp [h0]
      clear h0
      by_cases hz : r[0].toNat = 48
      · have hb : (((r[0].toNat : Nat) : Int) == 48) = true := by simp [hz]
        have HP : Hid (Pl.plainB r.data.toList = false) := Pl.plainB_zero r hp hz
        clear hz
        go_wp2
        go_ret
        exact ⟨by rw [HF'.out, HP.out]; rfl, hbel⟩
      · have hb : (((r[0].toNat : Nat) : Int) == 48) = false := by simp; omega
        have HP : Hid (Pl.plainB r.data.toList = r.data.toList.all Pl.isDig) := Pl.plainB_some r hp hz
        clear hz
        go_wp2
        go_loop [20] (fun i => ∃ k : Nat, k ≤ r.size ∧ i = .int .i64 k ∧ Hid ((r.data.toList.take k).all Pl.isDig = true)) (fun i => r.size - (intOf i).toNat)
        case atStart => exact ⟨0, Nat.zero_le _, rfl, rfl⟩
        case round =>
          obtain ⟨k, hk, rfl, HA⟩ := hrel
          by_cases hlt : k < r.size
          · by_cases hlo : r[k].toNat < 48
            · have HX : Hid (r.data.toList.all Pl.isDig = false) := Pl.all_not r k hlt (Pl.isDig_lo _ hlo)
              go_wp2
              go_ret
              exact ⟨by rw [HF'.out, HP.out, HX.out]; rfl, hbel⟩
            · by_cases hhi : 57 < r[k].toNat
              · have HX : Hid (r.data.toList.all Pl.isDig = false) := Pl.all_not r k hlt (Pl.isDig_hi _ hhi)
                go_wp2
                go_ret
                exact ⟨by rw [HF'.out, HP.out, HX.out]; rfl, hbel⟩
              · have HX : Hid ((r.data.toList.take (k + 1)).all Pl.isDig = true) := by
                  show _ = true
                  rw [Pl.all_take_succ r k hlt, HA.out, Pl.isDig_mid _ (by omega) (by omega)]; rfl
                go_wp2
                go_round
                case rel => exact ⟨k + 1, by omega, by go_num, HX⟩
                case measure => simp [intOf]; omega
          · have HX : Hid (r.data.toList.all Pl.isDig = true) := by
              show _ = true
              have := HA.out
              rwa [List.take_of_length_le (by simp; omega)] at this
            go_wp2
            go_ret
            exact ⟨by rw [HF'.out, HP.out, HX.out]; rfl, hbel⟩
end Go.Proofs.YtfcbeohkhljboaaDoor
namespace Go.Proofs.YtfcbeohkhljboaaDoor
open Go.RowKit
set_option linter.unusedVariables false
set_option linter.unusedSimpArgs false

theorem w_CompareInt (a b : Int) (w : World) :
    Calls Tryd.prog 95 #[.int .i64 a, .int .i64 b] w fun e w' => e = .returned (.int .i64 (Pl.cmpI a b)) ∧ w' = w := by
  by_cases h1 : a < b
  · have HX : Hid (Pl.cmpI a b = -1) := by show _ = _; simp [Pl.cmpI, h1]
    go_enter Tryd.func95, Tryd.ntmps95
    go_wp2
    all_goals (go_ret; exact ⟨by rw [HX.out]; rfl, rfl⟩)
  · by_cases h2 : b < a
    · have HX : Hid (Pl.cmpI a b = 1) := by show _ = _; simp [Pl.cmpI, h1, h2]
      go_enter Tryd.func95, Tryd.ntmps95
      go_wp2
      all_goals (go_ret; exact ⟨by rw [HX.out]; rfl, rfl⟩)
    · have HX : Hid (Pl.cmpI a b = 0) := by show _ = _; simp [Pl.cmpI, h1, h2]
      go_enter Tryd.func95, Tryd.ntmps95
      go_wp2
      all_goals (go_ret; exact ⟨by rw [HX.out]; rfl, rfl⟩)

theorem w_CompareString (a b : ByteArray) (w : World) :
    Calls Tryd.prog 101 #[.string a, .string b] w fun e w' => e = .returned (.int .i64 (Pl.cmpS a.toList b.toList)) ∧ w' = w := by
  cases h1 : Op.bytesLess a.toList b.toList with
  | true =>
    have HX : Hid (Pl.cmpS a.toList b.toList = -1) := by show _ = _; simp [Pl.cmpS, h1]
    go_enter Tryd.func101, Tryd.ntmps101
    go_wp2
    all_goals (go_ret; exact ⟨by rw [HX.out]; rfl, rfl⟩)
  | false =>
    cases h2 : (a.toList == b.toList) with
    | false =>
      have HX : Hid (Pl.cmpS a.toList b.toList = 1) := by show _ = _; simp [Pl.cmpS, h1, h2]
      go_enter Tryd.func101, Tryd.ntmps101
      go_wp2
      all_goals (go_ret; exact ⟨by rw [HX.out]; rfl, rfl⟩)
    | true =>
      have HX : Hid (Pl.cmpS a.toList b.toList = 0) := by show _ = _; simp [Pl.cmpS, h1, h2]
      go_enter Tryd.func101, Tryd.ntmps101
      go_wp2
      all_goals (go_ret; exact ⟨by rw [HX.out]; rfl, rfl⟩)

theorem w_Or2 (b : Nat) (x y : Int) (w : World) (hx : w.cell? ⟨b, 0, none⟩ = some (.int .i64 x)) (hy : w.cell? ⟨b, 1, none⟩ = some (.int .i64 y)) :
    Calls Tryd.prog 100 #[.slice (some ⟨b, 0, none⟩) 2 2] w fun e w' => e = .returned (.int .i64 (Pl.orI x y)) ∧ w' = w := by
  by_cases h : x = 0
  · subst h
    by_cases h2 : y = 0
    · subst h2
      have HX : Hid (Pl.orI 0 0 = 0) := rfl
      go_enter Tryd.func100, Tryd.ntmps100
      go_wp2
      refine wp_loop_rounds 3 ?_
      rw [rounds_succ]
      go_wp2
      rw [rounds_succ]
      go_wp2
      rw [rounds_succ]
      go_wp2
      go_ret
      exact ⟨by rw [HX.out]; rfl, rfl⟩
    · have HX : Hid (Pl.orI 0 y = y) := rfl
      have h3 : (y == 0) = false := by simp [h2]
      have h4 : (y != 0) = true := by simp [h2]
      go_enter Tryd.func100, Tryd.ntmps100
      go_wp2
      refine wp_loop_rounds 2 ?_
      rw [rounds_succ]
      go_wp2
      rw [rounds_succ]
      go_wp2
      go_ret
      exact ⟨by rw [HX.out]; rfl, rfl⟩
  · have HX : Hid (Pl.orI x y = x) := by show _ = _; simp [Pl.orI, h]
    have h3 : (x == 0) = false := by simp [h]
    have h4 : (x != 0) = true := by simp [h]
    go_enter Tryd.func100, Tryd.ntmps100
    go_wp2
    refine wp_loop_rounds 1 ?_
    rw [rounds_succ]
    go_wp2
    go_ret
    exact ⟨by rw [HX.out]; rfl, rfl⟩

theorem w_compareTexts (a b : ByteArray) (w : World) (ha : a.size ≤ maxLen) (hb : b.size ≤ maxLen) :
    Calls Tryd.prog 84 #[.string a, .string b] w fun e w' => e = .returned (.int .i64 (Pl.cmpT a.toList b.toList)) ∧ Below w.heap.size w w' := by
  unfold maxLen at ha hb
  go_enter Tryd.func84, Tryd.ntmps84
  go_wp2_with fail
  refine (w_CompareInt _ _ _).mono ?_
  rintro e w' ⟨rfl, rfl⟩
  go_wp2_with fail
  refine (w_CompareString _ _ _).mono ?_
  rintro e w' ⟨rfl, rfl⟩
  have HT : Hid (Pl.cmpT a.toList b.toList = Pl.orI (Pl.cmpI (a.size : Int) (b.size : Int)) (Pl.cmpS a.toList b.toList)) := Pl.cmpT_eq a b
  generalize Pl.cmpI (a.size : Int) (b.size : Int) = x at HT ⊢
  generalize Pl.cmpS a.toList b.toList = y at HT ⊢
  go_wp2_with fail
  refine (w_Or2 w'.heap.size x y _ (by simp) (by simp)).mono ?_
  rintro e w1 ⟨rfl, rfl⟩
  go_wp2
  go_ret
  exact ⟨by rw [HT.out]; rfl, (Below.refl _ _).alloc (Nat.le_refl _) _⟩
end Go.Proofs.YtfcbeohkhljboaaDoor
