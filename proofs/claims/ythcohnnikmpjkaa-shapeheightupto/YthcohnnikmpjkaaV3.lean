import Derived.Test.YthcohnnikmpjkaaV2
import Derived.BigRegion
namespace Go.Proofs.Ythcohnnikmpjkaa
open Go.RowKit
set_option linter.unusedVariables false
set_option linter.unusedSimpArgs false

theorem and15 (x : Int) (h0 : 0 ≤ x) (h : x < 2147483648) : bits .and .i32 x 15 = x % 16 := by
  have h := bits_mask .i32 31 (by decide) wraps_i32 4 (by decide) x h0 (by omega)
  have e : ((2 : Int) ^ 4 - 1) = 15 := by decide
  have e2 : ((2 : Int) ^ 4) = 16 := by decide
  rw [e, e2] at h
  exact h
theorem and1023 (x : Int) (h0 : 0 ≤ x) (h : x < 2147483648) : bits .and .i32 x 1023 = x % 1024 := by
  have h := bits_mask .i32 31 (by decide) wraps_i32 10 (by decide) x h0 (by omega)
  have e : ((2 : Int) ^ 10 - 1) = 1023 := by decide
  have e2 : ((2 : Int) ^ 10) = 1024 := by decide
  rw [e, e2] at h
  exact h

/-- the digits -/
def hxs : ByteArray := ⟨#[48, 49, 50, 51, 52, 53, 54, 55, 56, 57, 97, 98, 99, 100, 101, 102]⟩
def hx (i : Nat) : UInt8 := hxs.data.toList.getD i 0
theorem hx_at (i : Nat) (h : i < 16) : (ByteArray.mk #[48, 49, 50, 51, 52, 53, 54, 55, 56, 57, 97, 98, 99, 100, 101, 102])[i]'h = hx i := by
  have hl : i < hxs.data.toList.length := h
  unfold hx
  rw [List.getD_eq_getElem?_getD, List.getElem?_eq_getElem hl]; rfl

/-- an escape by number -/
def unit (n : Nat) : List UInt8 := [92, 117, hx (n / 4096), hx (n / 256 % 16), hx (n / 16 % 16), hx (n % 16)]
end Go.Proofs.Ythcohnnikmpjkaa
