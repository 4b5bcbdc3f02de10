import Derived.Test.YtaflpeajapdkdaaM2
import Derived.BigRegion
namespace Go.Proofs.Ytaflpeajapdkdaa
open Go.RowKit
set_option linter.unusedVariables false
set_option linter.unusedSimpArgs false

theorem and15 (x : Int) (h0 : 0 ≤ x) (h : x < 2147483648) : bits .and .i32 x 15 = x % 16 := by
  have h := bits_mask .i32 31 (by decide) wraps_i32 4 (by decide) x h0 (by omega)
  have e : ((2 : Int) ^ 4 - 1) = 15 := by decide
  have e2 : ((2 : Int) ^ 4) = 16 := by decide
  rw [e, e2] at h
  exact h
theorem and1023 (x : Int) (h0 : 0 ≤ x) (h : x < 2147483648) : bits .and .i32 x 1023 = x % 1024 := by
  have h := bits_mask .i32 31 (by decide) wraps_i32 10 (by decide) x h0 (by omega)
  have e : ((2 : Int) ^ 10 - 1) = 1023 := by decide
  have e2 : ((2 : Int) ^ 10) = 1024 := by decide
  rw [e, e2] at h
  exact h

/-- the digits -/
def hxs : ByteArray := ⟨#[48, 49, 50, 51, 52, 53, 54, 55, 56, 57, 97, 98, 99, 100, 101, 102]⟩
def hx (i : Nat) : UInt8 := hxs.data.toList.getD i 0
theorem hx_at (i : Nat) (h : i < 16) : (ByteArray.mk #[48, 49, 50, 51, 52, 53, 54, 55, 56, 57, 97, 98, 99, 100, 101, 102])[i]'h = hx i := by
  have hl : i < hxs.data.toList.length := h
  unfold hx
  rw [List.getD_eq_getElem?_getD, List.getElem?_eq_getElem hl]; rfl

/-- an escape by number -/
def unit (n : Nat) : List UInt8 := [92, 117, hx (n / 4096), hx (n / 256 % 16), hx (n / 16 % 16), hx (n % 16)]

theorem conv6 (c1 c2 c3 c4 : UInt8) (w : World) : (convert 56 9 (.slice (some ⟨w.heap.size, 0, none⟩) 6 6)).run Try.prog ((w.alloc (.cells #[.int .u8 92, .int .u8 117, .int .u8 (c1.toNat : Int), .int .u8 (c2.toNat : Int), .int .u8 (c3.toNat : Int), .int .u8 (c4.toNat : Int)] 5)).drew) = .ok (.string ⟨#[92, 117, c1, c2, c3, c4]⟩) ((w.alloc (.cells #[.int .u8 92, .int .u8 117, .int .u8 (c1.toNat : Int), .int .u8 (c2.toNat : Int), .int .u8 (c3.toNat : Int), .int .u8 (c4.toNat : Int)] 5)).drew) := by
  have h := run_convert_bytes_back (P := Try.prog) ((w.alloc (.cells #[.int .u8 92, .int .u8 117, .int .u8 (c1.toNat : Int), .int .u8 (c2.toNat : Int), .int .u8 (c3.toNat : Int), .int .u8 (c4.toNat : Int)] 5)).drew) 56 9 5 ⟨w.heap.size, 0, none⟩ 6 [92, 117, c1, c2, c3, c4] Try.underlying56 Try.underlying5 Try.underlying9 (by
    intro j hj
    have hj6 : j < 6 := hj
    rcases (show j = 0 ∨ j = 1 ∨ j = 2 ∨ j = 3 ∨ j = 4 ∨ j = 5 by omega) with rfl | rfl | rfl | rfl | rfl | rfl <;> simp [Addr.add, go_sem])
  exact h
end Go.Proofs.Ytaflpeajapdkdaa
namespace Go.Proofs.Ytaflpeajapdkdaa
open Go.RowKit
set_option linter.unusedVariables false
set_option linter.unusedSimpArgs false

/-- a rune by escapes alone -/
def esc (n : Nat) : List UInt8 := if n < 65536 then unit n else unit (55296 + (n - 65536) / 1024) ++ unit (56320 + (n - 65536) % 1024)
/-- what is no rune counts as FFFD -/
def rn (r : Int) : Nat := if Lib.validRune r then r.toNat else 65533

theorem rn_lt (r : Int) : rn r ≤ 1114111 ∧ ¬ (55296 ≤ rn r ∧ rn r ≤ 57343) := by
  unfold rn Lib.validRune
  split
  · rename_i h
    simp only [decide_eq_true_eq] at h
    omega
  · omega

theorem append_bytes (a b : List UInt8) : (ByteArray.mk a.toArray) ++ (ByteArray.mk b.toArray) = ByteArray.mk (a ++ b).toArray := by
  apply ByteArray.ext
  simp [ByteArray.data_append]
end Go.Proofs.Ytaflpeajapdkdaa
