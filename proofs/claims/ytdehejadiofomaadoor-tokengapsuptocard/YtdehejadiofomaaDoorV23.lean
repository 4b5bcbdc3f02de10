import Derived.Test.YtdehejadiofomaaDoorV2
namespace Go.Proofs.YtdehejadiofomaaDoor
open Go.RowKit
set_option linter.unusedVariables false
set_option linter.unusedSimpArgs false

set_option maxRecDepth 100000 in
theorem nonhex (c : UInt8) (h : isHex c = false) : (c.toNat = 95 ∧ (c.toNat ||| 32) = 127) ∨ (c.toNat < 48 ∧ (c.toNat ||| 32) < 97) ∨ (58 ≤ c.toNat ∧ c.toNat ≠ 95 ∧ (c.toNat ||| 32) < 97) ∨ (58 ≤ c.toNat ∧ c.toNat ≠ 95 ∧ 122 < (c.toNat ||| 32)) ∨ (58 ≤ c.toNat ∧ c.toNat ≠ 95 ∧ 103 ≤ (c.toNat ||| 32) ∧ (c.toNat ||| 32) ≤ 122) := by
  unfold isHex at h
  simp only [Bool.or_eq_false_iff, Bool.and_eq_false_iff, decide_eq_false_iff_not] at h
  have h95 : c.toNat = 95 → (c.toNat ||| 32) = 127 := by intro e; rw [e]; decide
  have h48 : ∀ m : Fin 48, (m.val ||| 32) < 97 := by decide
  by_cases a : c.toNat < 48
  · right; left; exact ⟨a, h48 ⟨c.toNat, a⟩⟩
  · by_cases e : c.toNat = 95
    · left; exact ⟨e, h95 e⟩
    · omega

set_option maxRecDepth 100000 in
set_option maxHeartbeats 3200000 in
theorem w_iparse16_bad (t : ByteArray) (w : World) (ht : t.size = 4) (hh : t.data.toList.all isHex = false) :
    Calls Tryd.prog 75 #[.string t, .int .i64 16, .int .i64 16] w fun e w' => e = .returned (.tuple #[.int .u64 0, .iface 112 (.int .i64 2)]) ∧ Below w.heap.size w w' := by
  have hemp : t.toList.isEmpty = false := by
    rw [← decide_eq_emptyBytes]
    exact decide_eq_false (fun h => by rw [h] at ht; simp at ht)
  have hcv := Lib.run_convert_string_bytes (P := Tryd.prog) w 9 42 5 t (u := .string) Tryd.underlying9 Tryd.underlying42 Tryd.underlying5
  have hB : ∀ j, j < t.size → (Lib.bytesWorld w 5 t).cell? ⟨w.heap.size, j, none⟩ = some (.int .u8 (t.data.toList.getD j 0).toNat) := fun j hj => Lib.bytesWorld_cell w 5 t j hj
  have HBW := Hid.mk (Lib.bytesWorld_below w 5 t)
  obtain ⟨W1, hW1⟩ : ∃ W1, W1 = Lib.bytesWorld w 5 t := ⟨_, rfl⟩
  rw [← hW1] at hcv hB HBW
  clear hW1
  have HBc := Hid.mk hB
  have HH := Hid.mk hh
  have HT := Hid.mk ht
  rw [ht] at hcv
  clear hB hh
  go_enter Tryd.func75, Tryd.ntmps75
  go_wp2
  go_loop [12, 13, 101] (fun vu vn vi => ∃ (k : Nat) (n : Int), vu = .bool false ∧ vn = .int .u64 n ∧ vi = .int .i64 k ∧ k ≤ 4 ∧ 0 ≤ n ∧ n < 65536 ∧ Hid (n = ((hexN (t.data.toList.take k) : Nat) : Int) ∧ (t.data.toList.take k).all isHex = true)) (fun _ _ vi => 4 - (intOf vi).toNat)
  case atStart => exact ⟨0, 0, rfl, rfl, rfl, by omega, by omega, by omega, rfl, rfl⟩
  case round =>
    obtain ⟨k, n, rfl, rfl, rfl, hk, hn0, hn, HN⟩ := hrel
    by_cases hlt : k < 4
    · have hk4 : (k : Int) < 4 := by omega
      have cb := HBc.out k (by rw [HT.out]; exact hlt)
      obtain ⟨c, hc⟩ : ∃ c, c = t.data.toList.getD k 0 := ⟨_, rfl⟩
      rw [← hc] at cb
      cases hhc : isHex c with
      | false =>
        have hlo := fun u => Tryd.internal_strconv_lower (c.toNat : Int) u
        have h256 := c.toNat_lt
        rw [or32 _ h256] at hlo
        have HLo := Hid.mk hlo
        clear hlo HN hc
        have hnh := nonhex c hhc
        clear hhc
        generalize (c.toNat ||| 32) = l at *
        generalize c.toNat = m at *
        rcases hnh with ⟨rfl, rfl⟩ | ⟨h1, h2⟩ | ⟨h1, h2, h3⟩ | ⟨h1, h2, h3⟩ | ⟨h1, h2, h3, h4⟩
        · go_wp2_with (go_at_call 77; refine (HLo.out _).mono ?_; rintro e w' ⟨rfl, rfl⟩)
          go_ret2
          exact ⟨rfl, HBW.out⟩
        · have q1 : ((m : Int) == 95) = false := by rw [beq_eq_false_iff_ne]; omega
          have q2 : ¬ (48 : Int) ≤ (m : Int) := by omega
          have q3 : ¬ (97 : Int) ≤ (l : Int) := by omega
          go_wp2_with (go_at_call 77; refine (HLo.out _).mono ?_; rintro e w' ⟨rfl, rfl⟩)
          go_ret2
          exact ⟨rfl, HBW.out⟩
        · have q1 : ((m : Int) == 95) = false := by rw [beq_eq_false_iff_ne]; omega
          have q2 : ¬ (m : Int) ≤ 57 := by omega
          have q3 : ¬ (97 : Int) ≤ (l : Int) := by omega
          go_wp2_with (go_at_call 77; refine (HLo.out _).mono ?_; rintro e w' ⟨rfl, rfl⟩)
          go_ret2
          exact ⟨rfl, HBW.out⟩
        · have q1 : ((m : Int) == 95) = false := by rw [beq_eq_false_iff_ne]; omega
          have q2 : ¬ (m : Int) ≤ 57 := by omega
          have q3 : ¬ (l : Int) ≤ 122 := by omega
          go_wp2_with (go_at_call 77; refine (HLo.out _).mono ?_; rintro e w' ⟨rfl, rfl⟩)
          go_ret2
          exact ⟨rfl, HBW.out⟩
        · have q1 : ((m : Int) == 95) = false := by rw [beq_eq_false_iff_ne]; omega
          have q2 : ¬ (m : Int) ≤ 57 := by omega
          have q3 : (103 : Int) ≤ (l : Int) := by omega
          have q4 : (l : Int) ≤ 122 := by omega
          go_wp2_with (go_at_call 77; refine (HLo.out _).mono ?_; rintro e w' ⟨rfl, rfl⟩)
          go_ret2
          exact ⟨rfl, HBW.out⟩
      | true =>
        have HS : Hid (((hexN (t.data.toList.take (k + 1)) : Nat) : Int) = n * 16 + ((hexd c : Nat) : Int)) := by
          show _ = _
          rw [take_snoc4 t k (by rw [HT.out]; exact hlt), hexN_snoc, HN.out.1, hc]; omega
        have hall : (t.data.toList.take (k + 1)).all isHex = true := by
          rw [take_snoc4 t k (by rw [HT.out]; exact hlt), List.all_append, HN.out.2, ← hc]; simp [hhc]
        have HALL := Hid.mk hall
        have hb : n * 16 + ((hexd c : Nat) : Int) < 65536 := by
          rw [← HS.out]
          have := hexN_lt _ hall 4 (by simp; omega)
          omega
        have hlo := fun u => Tryd.internal_strconv_lower (c.toNat : Int) u
        have h256 := c.toNat_lt
        rw [or32 _ h256] at hlo
        have HLo := Hid.mk hlo
        clear hlo HN hc hall
        rcases hex_cases hhc with ⟨h1, h2, h3⟩ | ⟨h1, h2, h3, h4⟩
        · rw [h3] at HS hb
          clear hhc h3 HLo
          generalize c.toNat = m at *
          have hnm1 : (48 : Int) ≤ (m : Int) := by omega
          have hnm2 : (m : Int) ≤ 57 := by omega
          go_wp2
          go_round
          case rel => exact ⟨k + 1, n * 16 + ((m - 48 : Nat) : Int), rfl, congrArg (Value.int .u64) (by omega), by go_num, by omega, by omega, by omega, HS.out.symm, HALL.out⟩
          case measure => simp [intOf]; omega
        · rw [h4] at HS hb
          have h95 : ((c.toNat : Int) == 95) = false := by
            rw [beq_eq_false_iff_ne]
            intro e
            have e2 : c.toNat = 95 := by omega
            rw [e2] at h3
            exact absurd h3 (by decide)
          clear hhc h4
          generalize (c.toNat ||| 32) = l at *
          generalize c.toNat = m at *
          have hm58 : ¬ (m : Int) ≤ 57 := by omega
          have hl1 : (97 : Int) ≤ (l : Int) := by omega
          have hl2 : (l : Int) ≤ 122 := by omega
          go_wp2_with (go_at_call 77; refine (HLo.out _).mono ?_; rintro e w' ⟨rfl, rfl⟩)
          go_round
          case rel => exact ⟨k + 1, n * 16 + ((l - 87 : Nat) : Int), rfl, congrArg (Value.int .u64) (by omega), by go_num, by omega, by omega, by omega, HS.out.symm, HALL.out⟩
          case measure => simp [intOf]; omega
    · obtain rfl : k = 4 := by omega
      exfalso
      have := HN.out.2
      rw [List.take_of_length_le (by have := HT.out; simp; omega), HH.out] at this
      cases this
end Go.Proofs.YtdehejadiofomaaDoor
