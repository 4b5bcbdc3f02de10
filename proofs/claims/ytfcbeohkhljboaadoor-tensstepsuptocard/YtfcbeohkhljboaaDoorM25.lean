import Derived.Test.YtfcbeohkhljboaaDoorM16
import Derived.Test.YtfcbeohkhljboaaDoorM3
import Derived.Test.YtfcbeohkhljboaaDoorM8
namespace Go.Proofs.YtfcbeohkhljboaaDoor
open Go.RowKit
set_option linter.unusedVariables false
set_option linter.unusedSimpArgs false

theorem dvl_take (s : ByteArray) (k : Nat) (h : k < s.size) : Pl.dvl (s.data.toList.take (k + 1)) = Pl.dvl (s.data.toList.take k) * 10 + (s[k].toNat - 48) := by
  rw [Pl.take_snoc s k h]
  unfold Pl.dvl
  have : Pl.digs (s.data.toList.take k ++ [s[k]]) = (s[k].toNat - 48) :: Pl.digs (s.data.toList.take k) := by simp [Pl.digs]
  rw [this, Pl.val_cons]; omega

theorem dvl_take_lt (s : ByteArray) (k : Nat) (hk : k ≤ 9) (hd : s.data.toList.all Pl.isDig = true) : Pl.dvl (s.data.toList.take k) < 1000000000 := by
  have h1 : (s.data.toList.take k).all Pl.isDig = true := by
    rw [List.all_eq_true] at hd ⊢
    exact fun x hx => hd x (List.mem_of_mem_take hx)
  have h2 := Pl.dvl_lt _ h1
  have h3 : (s.data.toList.take k).length ≤ 9 := by simp; omega
  have h4 : 10 ^ (s.data.toList.take k).length ≤ 10 ^ 9 := Nat.pow_le_pow_right (by decide) h3
  have h5 : (10 : Nat) ^ 9 = 1000000000 := by decide
  omega

theorem dig_at (s : ByteArray) (k : Nat) (h : k < s.size) (hd : s.data.toList.all Pl.isDig = true) : 48 ≤ s[k].toNat ∧ s[k].toNat ≤ 57 := by
  rw [← Pl.isDig_iff]
  have : s[k] = s.data.toList[k]'(by simpa using h) := rfl
  rw [this]
  exact List.all_eq_true.1 hd _ (List.getElem_mem _)

set_option maxHeartbeats 400000 in
theorem w_readGroup (s : ByteArray) (w : World) (hs : s.size ≤ 9) (hd : Hid (s.data.toList.all Pl.isDig = true)) :
    Calls Tryd.prog 70 #[.string s] w fun e w' => e = .returned (.int .u64 (Pl.dvl s.data.toList)) ∧ w' = w := by
  go_enter Tryd.func70, Tryd.ntmps70
  go_wp2
  go_loop [3, 7] (fun g i => ∃ (k : Nat) (x : Nat), k ≤ s.size ∧ i = .int .i64 k ∧ x < 1000000000 ∧ g = .int .u64 (x : Int) ∧ Hid (x = Pl.dvl (s.data.toList.take k))) (fun _ i => s.size - (intOf i).toNat)
  case atStart => exact ⟨0, 0, Nat.zero_le _, rfl, by decide, rfl, rfl⟩
  case round =>
    obtain ⟨k, x, hk, rfl, hx, rfl, HX⟩ := hrel
    by_cases hlt : k < s.size
    · have h10 : x * 10 ≤ 10000000000 := by omega
      obtain ⟨hd1, hd2⟩ := dig_at s k hlt hd.out
      have HX' : Hid (x * 10 + (s[k].toNat - 48) = Pl.dvl (s.data.toList.take (k + 1))) := by show _ = _; rw [dvl_take s k hlt, ← HX.out]
      have HL : Hid (x * 10 + (s[k].toNat - 48) < 1000000000) := by show _ < _; rw [HX'.out]; exact dvl_take_lt s (k + 1) (by omega) hd.out
      go_wp2
      go_round
      case rel => exact ⟨k + 1, x * 10 + (s[k].toNat - 48), by omega, by go_num, HL.out, congrArg (Value.int .u64) (by omega), HX'⟩
      case measure => simp [intOf]; omega
    · have HY : Hid (x = Pl.dvl s.data.toList) := by
        show _ = _
        rw [HX.out, List.take_of_length_le (by simp; omega)]
      go_wp2
      go_ret
      exact ⟨by rw [← HY.out]; rfl, rfl⟩
end Go.Proofs.YtfcbeohkhljboaaDoor
