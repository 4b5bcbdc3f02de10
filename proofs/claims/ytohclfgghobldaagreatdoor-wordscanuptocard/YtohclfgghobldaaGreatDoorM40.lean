import Derived.Test.YtohclfgghobldaaGreatDoorM16
namespace Go.Proofs.YtohclfgghobldaaGreatDoor
open Go.RowKit
set_option linter.unusedVariables false
set_option linter.unusedSimpArgs false

set_option maxHeartbeats 400000 in
theorem w_rFormed_from (s : ByteArray) (w : World) (hs : s.size ≤ maxLen) (hp : 0 < s.size) (f : Nat) (hf1 : f ≤ 1) (hf : f = if Pl.neg s.data.toList then 1 else 0) (hb : (((s[0].toNat : Nat) : Int) == 45) = decide (f = 1)) :
    Calls Tryz.prog 44 #[.string s] w fun e w' => e = .returned (.bool (Pl.formed s.data.toList)) ∧ w' = w := by
  unfold maxLen at hs
  have HF := Hid.mk hf
  clear hf
  by_cases hfl : f = s.size
  · have hs1 : s.size = 1 := by omega
    have HX : Hid (Pl.formed s.data.toList = false) := Pl.formed_short s f HF.out hfl
    have hf1' : f = 1 := by omega
    subst hf1'
    have hsz : (((s.size : Nat) : Int) == 1) = true := by simp [hs1]
    have hsz' : ((1 : Int) == ((s.size : Nat) : Int)) = true := by simp [hs1]
    clear hfl
    go_enter Tryz.func44, Tryz.ntmps44
    go_wp2
    go_ret
    exact ⟨by rw [HX.out]; rfl, rfl⟩
  · have hlt : f < s.size := by omega
    clear hfl
    rcases (show f = 0 ∨ f = 1 by omega) with hf0 | hf0
    · subst hf0
      have hsz' : ((0 : Int) == ((s.size : Nat) : Int)) = false := by rw [beq_eq_false_iff_ne]; omega
      have hb' : (((s[0].toNat : Nat) : Int) == 45) = false := by rw [hb]; rfl
      clear hb
      go_enter Tryz.func44, Tryz.ntmps44
      go_wp2
      go_loop [4] (fun i => ∃ k : Nat, 0 ≤ k ∧ k ≤ s.size ∧ i = .int .i64 k ∧ Hid (∀ j (h : j < s.size), 0 ≤ j → j < k → Pl.isDig s[j] = true)) (fun i => s.size - (intOf i).toNat)
      case atStart => exact ⟨0, by omega, by omega, rfl, fun j _ h1 h2 => absurd h2 (by omega)⟩
      case round =>
        obtain ⟨k, hk0, hk, rfl, HA⟩ := hrel
        by_cases hlt2 : k < s.size
        · by_cases hlo : s[k].toNat < 48
          · have HX : Hid (Pl.formed s.data.toList = false) := Pl.formed_bad s _ HF.out k hlt2 hk0 (Pl.isDig_lo _ hlo)
            go_wp2
            go_ret
            exact ⟨by rw [HX.out]; rfl, rfl⟩
          · by_cases hhi : 57 < s[k].toNat
            · have HX : Hid (Pl.formed s.data.toList = false) := Pl.formed_bad s _ HF.out k hlt2 hk0 (Pl.isDig_hi _ hhi)
              go_wp2
              go_ret
              exact ⟨by rw [HX.out]; rfl, rfl⟩
            · have HX : Hid (∀ j (h : j < s.size), 0 ≤ j → j < k + 1 → Pl.isDig s[j] = true) := by
                intro j hj h0 h1
                by_cases e : j = k
                · subst e; exact Pl.isDig_mid _ (by omega) (by omega)
                · exact HA.out j hj h0 (by omega)
              go_wp2
              go_round
              case rel => exact ⟨k + 1, by omega, by omega, by go_num, HX⟩
              case measure => simp [intOf]; omega
        · have HX := Hid.mk (Pl.formed_good s _ HF.out hlt (fun j hj h0 => HA.out j hj h0 (by omega)))
          cases h1 : (((s[0].toNat : Nat) : Int) == 48)
          · have h2 : (((s[0].toNat : Nat) : Int) != 48) = true := by simp [bne, h1]
            have HX' : Hid (Pl.formed s.data.toList = true) := by show _ = _; rw [HX.out, h1]; rfl
            clear HX
            go_wp2
            go_ret
            exact ⟨by rw [HX'.out]; rfl, rfl⟩
          · have h2 : (((s[0].toNat : Nat) : Int) != 48) = false := by simp [bne, h1]
            have HX' : Hid (Pl.formed s.data.toList = (s.toList == [48])) := by show _ = _; rw [HX.out, h1]; rfl
            clear HX
            go_wp2
            go_ret
            exact ⟨by rw [HX'.out]; rfl, rfl⟩
    · subst hf0
      have hsz' : ((1 : Int) == ((s.size : Nat) : Int)) = false := by rw [beq_eq_false_iff_ne]; omega
      have hb' : (((s[0].toNat : Nat) : Int) == 45) = true := by rw [hb]; rfl
      clear hb
      go_enter Tryz.func44, Tryz.ntmps44
      go_wp2
      go_loop [4] (fun i => ∃ k : Nat, 1 ≤ k ∧ k ≤ s.size ∧ i = .int .i64 k ∧ Hid (∀ j (h : j < s.size), 1 ≤ j → j < k → Pl.isDig s[j] = true)) (fun i => s.size - (intOf i).toNat)
      case atStart => exact ⟨1, by omega, by omega, rfl, fun j _ h1 h2 => absurd h2 (by omega)⟩
      case round =>
        obtain ⟨k, hk0, hk, rfl, HA⟩ := hrel
        by_cases hlt2 : k < s.size
        · by_cases hlo : s[k].toNat < 48
          · have HX : Hid (Pl.formed s.data.toList = false) := Pl.formed_bad s _ HF.out k hlt2 hk0 (Pl.isDig_lo _ hlo)
            go_wp2
            go_ret
            exact ⟨by rw [HX.out]; rfl, rfl⟩
          · by_cases hhi : 57 < s[k].toNat
            · have HX : Hid (Pl.formed s.data.toList = false) := Pl.formed_bad s _ HF.out k hlt2 hk0 (Pl.isDig_hi _ hhi)
              go_wp2
              go_ret
              exact ⟨by rw [HX.out]; rfl, rfl⟩
            · have HX : Hid (∀ j (h : j < s.size), 1 ≤ j → j < k + 1 → Pl.isDig s[j] = true) := by
                intro j hj h0 h1
                by_cases e : j = k
                · subst e; exact Pl.isDig_mid _ (by omega) (by omega)
                · exact HA.out j hj h0 (by omega)
              go_wp2
              go_round
              case rel => exact ⟨k + 1, by omega, by omega, by go_num, HX⟩
              case measure => simp [intOf]; omega
        · have HX := Hid.mk (Pl.formed_good s _ HF.out hlt (fun j hj h0 => HA.out j hj h0 (by omega)))
          cases h1 : (((s[1].toNat : Nat) : Int) == 48)
          · have h2 : (((s[1].toNat : Nat) : Int) != 48) = true := by simp [bne, h1]
            have HX' : Hid (Pl.formed s.data.toList = true) := by show _ = _; rw [HX.out, h1]; rfl
            clear HX
            go_wp2
            go_ret
            exact ⟨by rw [HX'.out]; rfl, rfl⟩
          · have h2 : (((s[1].toNat : Nat) : Int) != 48) = false := by simp [bne, h1]
            have HX' : Hid (Pl.formed s.data.toList = (s.toList == [48])) := by show _ = _; rw [HX.out, h1]; rfl
            clear HX
            go_wp2
            go_ret
            exact ⟨by rw [HX'.out]; rfl, rfl⟩

theorem w_rFormed (s : ByteArray) (w : World) (hs : s.size ≤ maxLen) :
    Calls Tryz.prog 44 #[.string s] w fun e w' => e = .returned (.bool (Pl.formed s.data.toList)) ∧ w' = w := by
  by_cases h0 : s.size = 0
  · have HX : Hid (Pl.formed s.data.toList = false) := Pl.formed_short s 0 (by
      have := Pl.size_toList s; rw [h0] at this; rw [List.eq_nil_of_length_eq_zero this]; rfl) h0.symm
    unfold maxLen at hs
    have hsz : ¬ (0 : Int) < ((s.size : Nat) : Int) := by omega
    have hsz' : ((0 : Int) == ((s.size : Nat) : Int)) = true := by simp [h0]
    clear h0
    go_enter Tryz.func44, Tryz.ntmps44
    go_wp2
    go_ret
    exact ⟨by rw [HX.out]; rfl, rfl⟩
  · have hp : 0 < s.size := by omega
    have hn := Pl.neg_of s hp
    by_cases h45 : s[0].toNat = 45
    · exact w_rFormed_from s w hs hp 1 (by omega) (by rw [hn]; simp [h45]) (by simp [h45])
    · exact w_rFormed_from s w hs hp 0 (by omega) (by rw [hn]; simp [h45]) (by simp; omega)
end Go.Proofs.YtohclfgghobldaaGreatDoor
