import Derived.Test.YtbaknnpjbokilaaM12
namespace Go.Proofs.Ytbaknnpjbokilaa
open Go.RowKit
set_option linter.unusedVariables false
set_option linter.unusedSimpArgs false

theorem w_CompareString (a b : ByteArray) (w : World) :
    Calls Try.prog 54 #[.string a, .string b] w fun e w' => e = .returned (.int .i64 (Pl.cmpS a.toList b.toList)) ∧ w' = w := by
  cases h1 : Op.bytesLess a.toList b.toList with
  | true =>
    have HX : Hid (Pl.cmpS a.toList b.toList = -1) := by show _ = _; simp [Pl.cmpS, h1]
    go_enter Try.func54, Try.ntmps54
    go_wp2
    all_goals (go_ret; exact ⟨by rw [HX.out]; rfl, rfl⟩)
  | false =>
    cases h2 : (a.toList == b.toList) with
    | false =>
      have HX : Hid (Pl.cmpS a.toList b.toList = 1) := by show _ = _; simp [Pl.cmpS, h1, h2]
      go_enter Try.func54, Try.ntmps54
      go_wp2
      all_goals (go_ret; exact ⟨by rw [HX.out]; rfl, rfl⟩)
    | true =>
      have HX : Hid (Pl.cmpS a.toList b.toList = 0) := by show _ = _; simp [Pl.cmpS, h1, h2]
      go_enter Try.func54, Try.ntmps54
      go_wp2
      all_goals (go_ret; exact ⟨by rw [HX.out]; rfl, rfl⟩)
end Go.Proofs.Ytbaknnpjbokilaa
namespace Go.Proofs.Ytbaknnpjbokilaa
open Go.RowKit
set_option linter.unusedVariables false
set_option linter.unusedSimpArgs false

theorem ret_two_int {a b : Int} {v : Value} (h : a = b) : Ending.returned (.tuple #[.int .i64 a, v]) = .returned (.tuple #[.int .i64 b, v]) := by rw [h]
end Go.Proofs.Ytbaknnpjbokilaa
