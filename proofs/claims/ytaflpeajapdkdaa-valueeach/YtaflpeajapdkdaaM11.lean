import Derived.Test.YtaflpeajapdkdaaRows
import Derived.Test.YtaflpeajapdkdaaM10
import Derived.WalkKit
import Derived.Deep.QuietTactic
import Derived.BigQuiet
import Derived.Outline
import Derived.WalkLawsBesides
namespace Go.Proofs.Ytaflpeajapdkdaa
open Go.RowKit
set_option linter.unusedVariables false
set_option linter.unusedSimpArgs false

theorem w_cutMinus (s : ByteArray) (w : World) (hs : s.size ≤ maxLen) :
    Calls Try.prog 38 #[.string s] w fun e w' => ∃ r : ByteArray, e = .returned (.tuple #[.bool (Pl.neg s.data.toList), .string r]) ∧ r.data.toList = Pl.body s.data.toList ∧ r.size ≤ s.size ∧ Below w.heap.size w w' := by
  unfold maxLen at hs
  by_cases h0 : s.size = 0
  · have he : s.toList.isEmpty = true := by rw [Pl.isEmpty_of]; simp [h0]
    have hn : s.data.toList = [] := by have := Pl.size_toList s; rw [h0] at this; exact List.eq_nil_of_length_eq_zero this
    have HN : Hid (s.data.toList = []) := hn
    clear hn
    go_enter Try.func38, Try.ntmps38
    go_wp2
    go_ret2
    exact ⟨s, by rw [HN.out]; rfl, by rw [HN.out]; rfl, Nat.le_refl _, Below.refl _ _⟩
  · have hp : 0 < s.size := by omega
    have he : s.toList.isEmpty = false := by rw [Pl.isEmpty_of]; simp [h0]
    have HN : Hid (Pl.neg s.data.toList = decide (s[0].toNat = 45)) := Pl.neg_of s hp
    by_cases h45 : s[0].toNat = 45
    · have hb : (((s[0].toNat : Nat) : Int) == 45) = true := by simp [h45]
      have HN' : Hid (Pl.neg s.data.toList = true) := by show Pl.neg s.data.toList = true; rw [HN.out]; simp [h45]
      clear HN h45
      go_enter Try.func38, Try.ntmps38
      go_wp2
      go_quiet (fail)
      go_wp2
      go_ret2
      refine ⟨s.extract 1 s.size, by rw [HN'.out]; rfl, ?_, ?_, ?_⟩
      · rw [Pl.extract_tail, Pl.body, HN'.out]; rfl
      · simp
      · exact below_drewN (Below.refl _ _) _
    · have hb : (((s[0].toNat : Nat) : Int) == 45) = false := by simp; omega
      have HN' : Hid (Pl.neg s.data.toList = false) := by show Pl.neg s.data.toList = false; rw [HN.out]; simp [h45]
      clear HN h45
      go_enter Try.func38, Try.ntmps38
      go_wp2
      go_ret2
      exact ⟨s, by rw [HN'.out]; rfl, by rw [Pl.body, HN'.out]; rfl, Nat.le_refl _, Below.refl _ _⟩
end Go.Proofs.Ytaflpeajapdkdaa
namespace Go.Proofs.Ytaflpeajapdkdaa
open Go.RowKit
set_option linter.unusedVariables false
set_option linter.unusedSimpArgs false

theorem ret_bool {a b : Bool} (h : a = b) : Ending.returned (.bool a) = .returned (.bool b) := by rw [h]

set_option maxHeartbeats 400000 in
theorem w_Formed (s : ByteArray) (w : World) (hs : s.size ≤ maxLen) :
    Calls Try.prog 28 #[.string s] w fun e w' => e = .returned (.bool (Pl.formed s.data.toList)) ∧ Below w.heap.size w w' := by
  by_cases h48 : s.toList = [48]
  · have hb : (s.toList == [48]) = true := by simp [h48]
    have HF : Hid (Pl.formed s.data.toList = true) := Pl.formed_48 _ (by rw [← Lib.toList_data]; exact h48)
    clear h48
    go_enter Try.func28, Try.ntmps28
    go_wp2
    go_ret
    exact ⟨by rw [HF.out]; rfl, Below.refl _ _⟩
  · have hb : (s.toList == [48]) = false := by simp [h48]
    have HF : Hid (Pl.formed s.data.toList = Pl.plainB (Pl.body s.data.toList)) := Pl.formed_not _ (by rw [← Lib.toList_data]; exact h48)
    clear h48
    go_enter Try.func28, Try.ntmps28
    go_wp2_with fail
    refine (w_cutMinus s _ hs).mono ?_
    rintro e w1 ⟨r, rfl, hr, hsz, hbel⟩
    have HF' : Hid (Pl.formed s.data.toList = Pl.plainB r.data.toList) := by show _ = _; rw [HF.out, hr]
    unfold maxLen at hs
    clear HF hr hb
    by_cases h0 : r.size = 0
    · have he : r.toList.isEmpty = true := by rw [Pl.isEmpty_of]; simp [h0]
      have HP : Hid (Pl.plainB r.data.toList = false) := Pl.plainB_empty r h0
      clear h0
      go_wp2
      go_ret
      exact ⟨by rw [HF'.out, HP.out]; rfl, hbel⟩
    · have hp : 0 < r.size := by omega
      have he : r.toList.isEmpty = false := by rw [Pl.isEmpty_of]; simp [h0]
      clear h0
      by_cases hz : r[0].toNat = 48
      · have hb : (((r[0].toNat : Nat) : Int) == 48) = true := by simp [hz]
        have HP : Hid (Pl.plainB r.data.toList = false) := Pl.plainB_zero r hp hz
        clear hz
        go_wp2
        go_ret
        exact ⟨by rw [HF'.out, HP.out]; rfl, hbel⟩
      · have hb : (((r[0].toNat : Nat) : Int) == 48) = false := by simp; omega
        have HP : Hid (Pl.plainB r.data.toList = r.data.toList.all Pl.isDig) := Pl.plainB_some r hp hz
        clear hz
        go_wp2
        go_loop [20] (fun i => ∃ k : Nat, k ≤ r.size ∧ i = .int .i64 k ∧ Hid ((r.data.toList.take k).all Pl.isDig = true)) (fun i => r.size - (intOf i).toNat)
        case atStart => exact ⟨0, Nat.zero_le _, rfl, rfl⟩
        case round =>
          obtain ⟨k, hk, rfl, HA⟩ := hrel
          by_cases hlt : k < r.size
          · by_cases hlo : r[k].toNat < 48
            · have HX : Hid (r.data.toList.all Pl.isDig = false) := Pl.all_not r k hlt (Pl.isDig_lo _ hlo)
              go_wp2
              go_ret
              exact ⟨by rw [HF'.out, HP.out, HX.out]; rfl, hbel⟩
            · by_cases hhi : 57 < r[k].toNat
              · have HX : Hid (r.data.toList.all Pl.isDig = false) := Pl.all_not r k hlt (Pl.isDig_hi _ hhi)
                go_wp2
                go_ret
                exact ⟨by rw [HF'.out, HP.out, HX.out]; rfl, hbel⟩
              · have HX : Hid ((r.data.toList.take (k + 1)).all Pl.isDig = true) := by
                  show _ = true
                  rw [Pl.all_take_succ r k hlt, HA.out, Pl.isDig_mid _ (by omega) (by omega)]; rfl
                go_wp2
                go_round
                case rel => exact ⟨k + 1, by omega, by go_num, HX⟩
                case measure => simp [intOf]; omega
          · have HX : Hid (r.data.toList.all Pl.isDig = true) := by
              show _ = true
              have := HA.out
              rwa [List.take_of_length_le (by simp; omega)] at this
            go_wp2
            go_ret
            exact ⟨by rw [HF'.out, HP.out, HX.out]; rfl, hbel⟩
end Go.Proofs.Ytaflpeajapdkdaa
