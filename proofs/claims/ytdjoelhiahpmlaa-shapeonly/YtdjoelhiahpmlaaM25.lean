import Derived.Test.YtdjoelhiahpmlaaM7
import Derived.Test.YtdjoelhiahpmlaaM24
namespace Go.Proofs.Ytdjoelhiahpmlaa
open Go.RowKit Go.Shelf Go.Sort
set_option linter.unusedVariables false
set_option linter.unusedSimpArgs false
attribute [local go_sem] Oper.semAt_some

theorem w_bit0 (w : World) : Calls Try.prog 39 #[.int .i64 0] w fun e w' => e = .returned (.int .u8 1) ∧ w' = w := by
  go_enter Try.func39, Try.ntmps39
  go_wp2_with fail
  go_ret
  exact ⟨by first | rfl | decide, rfl⟩
end Go.Proofs.Ytdjoelhiahpmlaa
namespace Go.Proofs.Ytdjoelhiahpmlaa
open Go.RowKit Go.Shelf Go.Sort
set_option linter.unusedVariables false
set_option linter.unusedSimpArgs false
attribute [local go_sem] Oper.semAt_some

theorem w_bitn0 (w : World) : Calls Try.prog 39 #[.int .i64 0] w fun e w' => e = .returned (.int .u8 1) ∧ w' = w := by
  go_enter Try.func39, Try.ntmps39
  go_wp2_with fail
  go_ret
  exact ⟨by first | rfl | decide, rfl⟩
theorem w_bitn1 (w : World) : Calls Try.prog 39 #[.int .i64 1] w fun e w' => e = .returned (.int .u8 2) ∧ w' = w := by
  go_enter Try.func39, Try.ntmps39
  go_wp2_with fail
  go_ret
  exact ⟨by first | rfl | decide, rfl⟩
theorem w_bitn2 (w : World) : Calls Try.prog 39 #[.int .i64 2] w fun e w' => e = .returned (.int .u8 4) ∧ w' = w := by
  go_enter Try.func39, Try.ntmps39
  go_wp2_with fail
  go_ret
  exact ⟨by first | rfl | decide, rfl⟩
theorem w_bitn3 (w : World) : Calls Try.prog 39 #[.int .i64 3] w fun e w' => e = .returned (.int .u8 8) ∧ w' = w := by
  go_enter Try.func39, Try.ntmps39
  go_wp2_with fail
  go_ret
  exact ⟨by first | rfl | decide, rfl⟩
theorem w_bitn4 (w : World) : Calls Try.prog 39 #[.int .i64 4] w fun e w' => e = .returned (.int .u8 16) ∧ w' = w := by
  go_enter Try.func39, Try.ntmps39
  go_wp2_with fail
  go_ret
  exact ⟨by first | rfl | decide, rfl⟩
theorem w_bitn5 (w : World) : Calls Try.prog 39 #[.int .i64 5] w fun e w' => e = .returned (.int .u8 32) ∧ w' = w := by
  go_enter Try.func39, Try.ntmps39
  go_wp2_with fail
  go_ret
  exact ⟨by first | rfl | decide, rfl⟩
theorem w_bitn6 (w : World) : Calls Try.prog 39 #[.int .i64 6] w fun e w' => e = .returned (.int .u8 64) ∧ w' = w := by
  go_enter Try.func39, Try.ntmps39
  go_wp2_with fail
  go_ret
  exact ⟨by first | rfl | decide, rfl⟩
end Go.Proofs.Ytdjoelhiahpmlaa
namespace Go.Proofs.Ytdjoelhiahpmlaa
open Go.RowKit Go.Shelf Go.Sort
set_option linter.unusedVariables false
set_option linter.unusedSimpArgs false
attribute [local go_sem] Oper.semAt_some

/-- kinds as a row of bits -/
def kvA (p : Int) : List Bool → Int
  | [] => 0
  | b :: l => (if b then p else 0) + kvA (2 * p) l
def kvL (l : List Bool) : Int := kvA 1 l
def kdV (b0 b1 b2 b3 b5 : Bool) (nn nx NA NO : Nat) : Int := if b0 then 127 else kvL [b1, b2, b3, decide (0 < nn), (b5 || decide (0 < nx)), decide (0 < NA), decide (0 < NO)]
/-- the kinds of a type -/
def kdN (T : TT) : Int := kdV T.all T.nul T.fls T.tru T.any T.nums.length T.texts.length T.arrs.length T.objs.length
theorem or_kv0 : bits .or .u8 (kvL []) 1 = kvL [true] := by decide +kernel
theorem no_kv0 : kvL [false] = kvL [] := by decide +kernel
theorem or_kv1 : ∀ a0 : Bool, bits .or .u8 (kvL [a0]) 2 = kvL [a0, true] := by decide +kernel
theorem no_kv1 : ∀ a0 : Bool, kvL [a0, false] = kvL [a0] := by decide +kernel
theorem or_kv2 : ∀ a0 a1 : Bool, bits .or .u8 (kvL [a0, a1]) 4 = kvL [a0, a1, true] := by decide +kernel
theorem no_kv2 : ∀ a0 a1 : Bool, kvL [a0, a1, false] = kvL [a0, a1] := by decide +kernel
theorem or_kv3 : ∀ a0 a1 a2 : Bool, bits .or .u8 (kvL [a0, a1, a2]) 8 = kvL [a0, a1, a2, true] := by decide +kernel
theorem no_kv3 : ∀ a0 a1 a2 : Bool, kvL [a0, a1, a2, false] = kvL [a0, a1, a2] := by decide +kernel
theorem or_kv4 : ∀ a0 a1 a2 a3 : Bool, bits .or .u8 (kvL [a0, a1, a2, a3]) 16 = kvL [a0, a1, a2, a3, true] := by decide +kernel
theorem no_kv4 : ∀ a0 a1 a2 a3 : Bool, kvL [a0, a1, a2, a3, false] = kvL [a0, a1, a2, a3] := by decide +kernel
theorem or_kv5 : ∀ a0 a1 a2 a3 a4 : Bool, bits .or .u8 (kvL [a0, a1, a2, a3, a4]) 32 = kvL [a0, a1, a2, a3, a4, true] := by decide +kernel
theorem no_kv5 : ∀ a0 a1 a2 a3 a4 : Bool, kvL [a0, a1, a2, a3, a4, false] = kvL [a0, a1, a2, a3, a4] := by decide +kernel
theorem or_kv6 : ∀ a0 a1 a2 a3 a4 a5 : Bool, bits .or .u8 (kvL [a0, a1, a2, a3, a4, a5]) 64 = kvL [a0, a1, a2, a3, a4, a5, true] := by decide +kernel
theorem no_kv6 : ∀ a0 a1 a2 a3 a4 a5 : Bool, kvL [a0, a1, a2, a3, a4, a5, false] = kvL [a0, a1, a2, a3, a4, a5] := by decide +kernel
theorem kv_rg : ∀ a0 a1 a2 a3 a4 a5 a6 : Bool, 0 ≤ kvL [a0, a1, a2, a3, a4, a5, a6] ∧ kvL [a0, a1, a2, a3, a4, a5, a6] ≤ 127 := by decide +kernel
end Go.Proofs.Ytdjoelhiahpmlaa
