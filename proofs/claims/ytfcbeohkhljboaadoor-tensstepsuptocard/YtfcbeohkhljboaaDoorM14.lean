import Derived.Test.YtfcbeohkhljboaaDoorM4
import Derived.Test.YtfcbeohkhljboaaDoorM1
import Derived.Test.YtfcbeohkhljboaaDoorM13
import Derived.Test.YtfcbeohkhljboaaDoorM2
namespace Go.Proofs.YtfcbeohkhljboaaDoor
open Go.RowKit
set_option linter.unusedVariables false
set_option linter.unusedSimpArgs false

theorem dvl_take (s : ByteArray) (k : Nat) (h : k < s.size) : Pl.dvl (s.data.toList.take (k + 1)) = Pl.dvl (s.data.toList.take k) * 10 + (s[k].toNat - 48) := by
  rw [Pl.take_snoc s k h]
  unfold Pl.dvl
  have : Pl.digs (s.data.toList.take k ++ [s[k]]) = (s[k].toNat - 48) :: Pl.digs (s.data.toList.take k) := by simp [Pl.digs]
  rw [this, Pl.val_cons]; omega

theorem dvl_take_lt (s : ByteArray) (k : Nat) (hk : k ≤ 9) (hd : s.data.toList.all Pl.isDig = true) : Pl.dvl (s.data.toList.take k) < 1000000000 := by
  have h1 : (s.data.toList.take k).all Pl.isDig = true := by
    rw [List.all_eq_true] at hd ⊢
    exact fun x hx => hd x (List.mem_of_mem_take hx)
  have h2 := Pl.dvl_lt _ h1
  have h3 : (s.data.toList.take k).length ≤ 9 := by simp; omega
  have h4 : 10 ^ (s.data.toList.take k).length ≤ 10 ^ 9 := Nat.pow_le_pow_right (by decide) h3
  have h5 : (10 : Nat) ^ 9 = 1000000000 := by decide
  omega

theorem dig_at (s : ByteArray) (k : Nat) (h : k < s.size) (hd : s.data.toList.all Pl.isDig = true) : 48 ≤ s[k].toNat ∧ s[k].toNat ≤ 57 := by
  rw [← Pl.isDig_iff]
  have : s[k] = s.data.toList[k]'(by simpa using h) := rfl
  rw [this]
  exact List.all_eq_true.1 hd _ (List.getElem_mem _)

set_option maxHeartbeats 400000 in
theorem w_readGroup (s : ByteArray) (w : World) (hs : s.size ≤ 9) (hd : Hid (s.data.toList.all Pl.isDig = true)) :
    Calls Tryd.prog 70 #[.string s] w fun e w' => e = .returned (.int .u64 (Pl.dvl s.data.toList)) ∧ w' = w := by
  go_enter Tryd.func70, Tryd.ntmps70
  go_wp2
  go_loop [3, 7] (fun g i => ∃ (k : Nat) (x : Nat), k ≤ s.size ∧ i = .int .i64 k ∧ x < 1000000000 ∧ g = .int .u64 (x : Int) ∧ Hid (x = Pl.dvl (s.data.toList.take k))) (fun _ i => s.size - (intOf i).toNat)
  case atStart => exact ⟨0, 0, Nat.zero_le _, rfl, by decide, rfl, rfl⟩
  case round =>
    obtain ⟨k, x, hk, rfl, hx, rfl, HX⟩ := hrel
    by_cases hlt : k < s.size
    · have h10 : x * 10 ≤ 10000000000 := by omega
      obtain ⟨hd1, hd2⟩ := dig_at s k hlt hd.out
      have HX' : Hid (x * 10 + (s[k].toNat - 48) = Pl.dvl (s.data.toList.take (k + 1))) := by show _ = _; rw [dvl_take s k hlt, ← HX.out]
      have HL : Hid (x * 10 + (s[k].toNat - 48) < 1000000000) := by show _ < _; rw [HX'.out]; exact dvl_take_lt s (k + 1) (by omega) hd.out
      go_wp2
      go_round
      case rel => exact ⟨k + 1, x * 10 + (s[k].toNat - 48), by omega, by go_num, HL.out, congrArg (Value.int .u64) (by omega), HX'⟩
      case measure => simp [intOf]; omega
    · have HY : Hid (x = Pl.dvl s.data.toList) := by
        show _ = _
        rw [HX.out, List.take_of_length_le (by simp; omega)]
      go_wp2
      go_ret
      exact ⟨by rw [← HY.out]; rfl, rfl⟩
end Go.Proofs.YtfcbeohkhljboaaDoor
namespace Go.Proofs.YtfcbeohkhljboaaDoor
open Go.RowKit
set_option linter.unusedVariables false
set_option linter.unusedSimpArgs false

set_option maxHeartbeats 400000 in
theorem w_rFormed_from (s : ByteArray) (w : World) (hs : s.size ≤ maxLen) (hp : 0 < s.size) (f : Nat) (hf1 : f ≤ 1) (hf : f = if Pl.neg s.data.toList then 1 else 0) (hb : (((s[0].toNat : Nat) : Int) == 45) = decide (f = 1)) :
    Calls Tryd.prog 13 #[.string s] w fun e w' => e = .returned (.bool (Pl.formed s.data.toList)) ∧ w' = w := by
  unfold maxLen at hs
  have HF := Hid.mk hf
  clear hf
  by_cases hfl : f = s.size
  · have hs1 : s.size = 1 := by omega
    have HX : Hid (Pl.formed s.data.toList = false) := Pl.formed_short s f HF.out hfl
    have hf1' : f = 1 := by omega
    subst hf1'
    have hsz : (((s.size : Nat) : Int) == 1) = true := by simp [hs1]
    have hsz' : ((1 : Int) == ((s.size : Nat) : Int)) = true := by simp [hs1]
    clear hfl
    go_enter Tryd.func13, Tryd.ntmps13
    go_wp2
    go_ret
    exact ⟨by rw [HX.out]; rfl, rfl⟩
  · have hlt : f < s.size := by omega
    clear hfl
    rcases (show f = 0 ∨ f = 1 by omega) with hf0 | hf0
    · subst hf0
      have hsz' : ((0 : Int) == ((s.size : Nat) : Int)) = false := by rw [beq_eq_false_iff_ne]; omega
      have hb' : (((s[0].toNat : Nat) : Int) == 45) = false := by rw [hb]; rfl
      clear hb
      go_enter Tryd.func13, Tryd.ntmps13
      go_wp2
      go_loop [4] (fun i => ∃ k : Nat, 0 ≤ k ∧ k ≤ s.size ∧ i = .int .i64 k ∧ Hid (∀ j (h : j < s.size), 0 ≤ j → j < k → Pl.isDig s[j] = true)) (fun i => s.size - (intOf i).toNat)
      case atStart => exact ⟨0, by omega, by omega, rfl, fun j _ h1 h2 => absurd h2 (by omega)⟩
      case round =>
        obtain ⟨k, hk0, hk, rfl, HA⟩ := hrel
        by_cases hlt2 : k < s.size
        · by_cases hlo : s[k].toNat < 48
          · have HX : Hid (Pl.formed s.data.toList = false) := Pl.formed_bad s _ HF.out k hlt2 hk0 (Pl.isDig_lo _ hlo)
            go_wp2
            go_ret
            exact ⟨by rw [HX.out]; rfl, rfl⟩
          · by_cases hhi : 57 < s[k].toNat
            · have HX : Hid (Pl.formed s.data.toList = false) := Pl.formed_bad s _ HF.out k hlt2 hk0 (Pl.isDig_hi _ hhi)
              go_wp2
              go_ret
              exact ⟨by rw [HX.out]; rfl, rfl⟩
            · have HX : Hid (∀ j (h : j < s.size), 0 ≤ j → j < k + 1 → Pl.isDig s[j] = true) := by
                intro j hj h0 h1
                by_cases e : j = k
                · subst e; exact Pl.isDig_mid _ (by omega) (by omega)
                · exact HA.out j hj h0 (by omega)
              go_wp2
              go_round
              case rel => exact ⟨k + 1, by omega, by omega, by go_num, HX⟩
              case measure => simp [intOf]; omega
        · have HX := Hid.mk (Pl.formed_good s _ HF.out hlt (fun j hj h0 => HA.out j hj h0 (by omega)))
          cases h1 : (((s[0].toNat : Nat) : Int) == 48)
          · have h2 : (((s[0].toNat : Nat) : Int) != 48) = true := by simp [bne, h1]
            have HX' : Hid (Pl.formed s.data.toList = true) := by show _ = _; rw [HX.out, h1]; rfl
            clear HX
            go_wp2
            go_ret
            exact ⟨by rw [HX'.out]; rfl, rfl⟩
          · have h2 : (((s[0].toNat : Nat) : Int) != 48) = false := by simp [bne, h1]
            have HX' : Hid (Pl.formed s.data.toList = (s.toList == [48])) := by show _ = _; rw [HX.out, h1]; rfl
            clear HX
            go_wp2
            go_ret
            exact ⟨by rw [HX'.out]; rfl, rfl⟩
    · subst hf0
      have hsz' : ((1 : Int) == ((s.size : Nat) : Int)) = false := by rw [beq_eq_false_iff_ne]; omega
      have hb' : (((s[0].toNat : Nat) : Int) == 45) = true := by rw [hb]; rfl
      clear hb
      go_enter Tryd.func13, Tryd.ntmps13
      go_wp2
      go_loop [4] (fun i => ∃ k : Nat, 1 ≤ k ∧ k ≤ s.size ∧ i = .int .i64 k ∧ Hid (∀ j (h : j < s.size), 1 ≤ j → j < k → Pl.isDig s[j] = true)) (fun i => s.size - (intOf i).toNat)
      case atStart => exact ⟨1, by omega, by omega, rfl, fun j _ h1 h2 => absurd h2 (by omega)⟩
      case round =>
        obtain ⟨k, hk0, hk, rfl, HA⟩ := hrel
        by_cases hlt2 : k < s.size
        · by_cases hlo : s[k].toNat < 48
          · have HX : Hid (Pl.formed s.data.toList = false) := Pl.formed_bad s _ HF.out k hlt2 hk0 (Pl.isDig_lo _ hlo)
            go_wp2
            go_ret
            exact ⟨by rw [HX.out]; rfl, rfl⟩
          · by_cases hhi : 57 < s[k].toNat
            · have HX : Hid (Pl.formed s.data.toList = false) := Pl.formed_bad s _ HF.out k hlt2 hk0 (Pl.isDig_hi _ hhi)
              go_wp2
              go_ret
              exact ⟨by rw [HX.out]; rfl, rfl⟩
            · have HX : Hid (∀ j (h : j < s.size), 1 ≤ j → j < k + 1 → Pl.isDig s[j] = true) := by
                intro j hj h0 h1
                by_cases e : j = k
                · subst e; exact Pl.isDig_mid _ (by omega) (by omega)
                · exact HA.out j hj h0 (by omega)
              go_wp2
              go_round
              case rel => exact ⟨k + 1, by omega, by omega, by go_num, HX⟩
              case measure => simp [intOf]; omega
        · have HX := Hid.mk (Pl.formed_good s _ HF.out hlt (fun j hj h0 => HA.out j hj h0 (by omega)))
          cases h1 : (((s[1].toNat : Nat) : Int) == 48)
          · have h2 : (((s[1].toNat : Nat) : Int) != 48) = true := by simp [bne, h1]
            have HX' : Hid (Pl.formed s.data.toList = true) := by show _ = _; rw [HX.out, h1]; rfl
            clear HX
            go_wp2
            go_ret
            exact ⟨by rw [HX'.out]; rfl, rfl⟩
          · have h2 : (((s[1].toNat : Nat) : Int) != 48) = false := by simp [bne, h1]
            have HX' : Hid (Pl.formed s.data.toList = (s.toList == [48])) := by show _ = _; rw [HX.out, h1]; rfl
            clear HX
            go_wp2
            go_ret
            exact ⟨by rw [HX'.out]; rfl, rfl⟩

theorem w_rFormed (s : ByteArray) (w : World) (hs : s.size ≤ maxLen) :
    Calls Tryd.prog 13 #[.string s] w fun e w' => e = .returned (.bool (Pl.formed s.data.toList)) ∧ w' = w := by
  by_cases h0 : s.size = 0
  · have HX : Hid (Pl.formed s.data.toList = false) := Pl.formed_short s 0 (by
      have := Pl.size_toList s; rw [h0] at this; rw [List.eq_nil_of_length_eq_zero this]; rfl) h0.symm
    unfold maxLen at hs
    have hsz : ¬ (0 : Int) < ((s.size : Nat) : Int) := by omega
    have hsz' : ((0 : Int) == ((s.size : Nat) : Int)) = true := by simp [h0]
    clear h0
    go_enter Tryd.func13, Tryd.ntmps13
    go_wp2
    go_ret
    exact ⟨by rw [HX.out]; rfl, rfl⟩
  · have hp : 0 < s.size := by omega
    have hn := Pl.neg_of s hp
    by_cases h45 : s[0].toNat = 45
    · exact w_rFormed_from s w hs hp 1 (by omega) (by rw [hn]; simp [h45]) (by simp [h45])
    · exact w_rFormed_from s w hs hp 0 (by omega) (by rw [hn]; simp [h45]) (by simp; omega)
end Go.Proofs.YtfcbeohkhljboaaDoor
