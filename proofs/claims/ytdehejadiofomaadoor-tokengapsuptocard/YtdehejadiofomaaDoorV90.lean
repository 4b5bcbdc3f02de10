import Derived.Test.YtdehejadiofomaaDoorV8
import Derived.Test.YtdehejadiofomaaDoorV6
namespace Go.Proofs.YtdehejadiofomaaDoor
open Go.RowKit
set_option linter.unusedVariables false
set_option linter.unusedSimpArgs false

theorem hx_hex : ∀ i, i < 16 → isHex (hx i) = true := by decide
theorem hx_val : ∀ i, i < 16 → hexd (hx i) = i := by decide

/-- the four digits of a number -/
def four (n : Nat) : List UInt8 := [hx (n / 4096), hx (n / 256 % 16), hx (n / 16 % 16), hx (n % 16)]
theorem unit_four (n : Nat) : unit n = 92 :: 117 :: four n := rfl
theorem four_hex (n : Nat) (h : n < 65536) : (four n).all isHex = true := by
  unfold four
  simp only [List.all_cons, List.all_nil, Bool.and_true, Bool.and_eq_true]
  exact ⟨hx_hex _ (by omega), hx_hex _ (by omega), hx_hex _ (by omega), hx_hex _ (by omega)⟩
theorem four_val (n : Nat) (h : n < 65536) : hexN (four n) = n := by
  unfold four hexN
  simp only [List.foldl_cons, List.foldl_nil]
  rw [hx_val _ (by omega), hx_val _ (by omega), hx_val _ (by omega), hx_val _ (by omega)]
  omega

theorem num_at (s : ByteArray) (pre post : List UInt8) (n : Nat) (h : n < 65536) (e : s.data.toList = pre ++ unit n ++ post) : NumAt s pre.length (four n) :=
  ⟨rfl, four_hex n h, pre, post, e, rfl⟩

theorem esc_len (n : Nat) : (esc n).length = 6 ∨ (esc n).length = 12 := by
  unfold esc
  split
  · left; rfl
  · right; rfl

theorem w_Escape_of (s : ByteArray) (pre post : List UInt8) (n : Nat) (w : World) (hr : isR n) (e : s.data.toList = pre ++ esc n ++ post) (hs : s.size ≤ 4611686018427387904) :
    Calls Tryd.prog 56 #[.string s, .int .i64 (pre.length : Int)] w fun e w' => e = .returned (.tuple #[.int .i32 ((n : Nat) : Int), .int .i64 ((pre.length : Int) + (((esc n).length : Nat) : Int)), .int .i64 0]) ∧ Below w.heap.size w w' := by
  unfold isR at hr
  by_cases h : n < 65536
  · have ee : esc n = unit n := by unfold esc; rw [if_pos h]
    rw [ee] at e ⊢
    have := w_Escape_one s pre.length (four n) w (num_at s pre post n h e) hs (by rw [four_val n h]; omega)
    rw [four_val n h] at this
    exact this
  · have ee : esc n = unit (55296 + (n - 65536) / 1024) ++ unit (56320 + (n - 65536) % 1024) := by unfold esc; rw [if_neg h]
    rw [ee] at e ⊢
    have hlt : n ≤ 1114111 := by omega
    have a1 : 55296 + (n - 65536) / 1024 < 65536 := by omega
    have a2 : 56320 + (n - 65536) % 1024 < 65536 := by omega
    have n1 := num_at s pre (unit (56320 + (n - 65536) % 1024) ++ post) _ a1 (by rw [e]; simp)
    have n2 := num_at s (pre ++ unit (55296 + (n - 65536) / 1024)) post _ a2 (by rw [e]; simp)
    have el : (pre ++ unit (55296 + (n - 65536) / 1024)).length = pre.length + 6 := by rw [List.length_append]; rfl
    rw [el] at n2
    have := w_Escape_two s pre.length _ _ w n1 n2 hs (by rw [four_val _ a1]; omega) (by rw [four_val _ a2]; omega)
    rw [four_val _ a1, four_val _ a2] at this
    rw [show 65536 + (55296 + (n - 65536) / 1024 - 55296) * 1024 + (56320 + (n - 65536) % 1024 - 56320) = n by omega] at this
    exact this

end Go.Proofs.YtdehejadiofomaaDoor
