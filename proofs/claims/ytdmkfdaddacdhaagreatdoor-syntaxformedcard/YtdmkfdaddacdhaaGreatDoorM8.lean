import Derived.Test.YtdmkfdaddacdhaaGreatDoorM7
import Derived.Test.YtdmkfdaddacdhaaGreatDoorM5
import Derived.Test.YtdmkfdaddacdhaaGreatDoorM2
namespace Go.Proofs.YtdmkfdaddacdhaaGreatDoor
open Go.RowKit
set_option linter.unusedVariables false
set_option linter.unusedSimpArgs false

theorem hx_hex : ∀ i, i < 16 → isHex (hx i) = true := by decide
theorem hx_val : ∀ i, i < 16 → hexd (hx i) = i := by decide

/-- the four digits of a number -/
def four (n : Nat) : List UInt8 := [hx (n / 4096), hx (n / 256 % 16), hx (n / 16 % 16), hx (n % 16)]
theorem unit_four (n : Nat) : unit n = 92 :: 117 :: four n := rfl
theorem four_hex (n : Nat) (h : n < 65536) : (four n).all isHex = true := by
  unfold four
  simp only [List.all_cons, List.all_nil, Bool.and_true, Bool.and_eq_true]
  exact ⟨hx_hex _ (by omega), hx_hex _ (by omega), hx_hex _ (by omega), hx_hex _ (by omega)⟩
theorem four_val (n : Nat) (h : n < 65536) : hexN (four n) = n := by
  unfold four hexN
  simp only [List.foldl_cons, List.foldl_nil]
  rw [hx_val _ (by omega), hx_val _ (by omega), hx_val _ (by omega), hx_val _ (by omega)]
  omega

theorem num_at (s : ByteArray) (pre post : List UInt8) (n : Nat) (h : n < 65536) (e : s.data.toList = pre ++ unit n ++ post) : NumAt s pre.length (four n) :=
  ⟨rfl, four_hex n h, pre, post, e, rfl⟩

theorem esc_len (n : Nat) : (esc n).length = 6 ∨ (esc n).length = 12 := by
  unfold esc
  split
  · left; rfl
  · right; rfl

theorem w_Escape_of (s : ByteArray) (pre post : List UInt8) (n : Nat) (w : World) (hr : isR n) (e : s.data.toList = pre ++ esc n ++ post) (hs : s.size ≤ 4611686018427387904) :
    Calls Tryz.prog 156 #[.string s, .int .i64 (pre.length : Int)] w fun e w' => e = .returned (.tuple #[.int .i32 ((n : Nat) : Int), .int .i64 ((pre.length : Int) + (((esc n).length : Nat) : Int)), .int .i64 0]) ∧ Below w.heap.size w w' := by
  unfold isR at hr
  by_cases h : n < 65536
  · have ee : esc n = unit n := by unfold esc; rw [if_pos h]
    rw [ee] at e ⊢
    have := w_Escape_one s pre.length (four n) w (num_at s pre post n h e) hs (by rw [four_val n h]; omega)
    rw [four_val n h] at this
    exact this
  · have ee : esc n = unit (55296 + (n - 65536) / 1024) ++ unit (56320 + (n - 65536) % 1024) := by unfold esc; rw [if_neg h]
    rw [ee] at e ⊢
    have hlt : n ≤ 1114111 := by omega
    have a1 : 55296 + (n - 65536) / 1024 < 65536 := by omega
    have a2 : 56320 + (n - 65536) % 1024 < 65536 := by omega
    have n1 := num_at s pre (unit (56320 + (n - 65536) % 1024) ++ post) _ a1 (by rw [e]; simp)
    have n2 := num_at s (pre ++ unit (55296 + (n - 65536) / 1024)) post _ a2 (by rw [e]; simp)
    have el : (pre ++ unit (55296 + (n - 65536) / 1024)).length = pre.length + 6 := by rw [List.length_append]; rfl
    rw [el] at n2
    have := w_Escape_two s pre.length _ _ w n1 n2 hs (by rw [four_val _ a1]; omega) (by rw [four_val _ a2]; omega)
    rw [four_val _ a1, four_val _ a2] at this
    rw [show 65536 + (55296 + (n - 65536) / 1024 - 55296) * 1024 + (56320 + (n - 65536) % 1024 - 56320) = n by omega] at this
    exact this

end Go.Proofs.YtdmkfdaddacdhaaGreatDoor
namespace Go.Proofs.YtdmkfdaddacdhaaGreatDoor
open Go.RowKit
set_option linter.unusedVariables false
set_option linter.unusedSimpArgs false

set_option maxRecDepth 100000 in
set_option maxHeartbeats 1600000 in
theorem s_34 (s : ByteArray) (k : Nat) (post : List UInt8) (w : World) (hd : s.data.toList.drop k = 92 :: 34 :: post) (hs : s.size ≤ 4611686018427387904) :
    Calls Tryz.prog 173 #[.string s, .int .i64 (k : Int)] w fun e w' => e = .returned (.tuple #[.int .i32 34, .bool true]) ∧ w' = w := by
  have hlt : k + 2 ≤ s.size := by
    have := congrArg List.length hd
    rw [List.length_drop, Array.length_toList] at this
    have e2 : s.data.size = s.size := rfl
    simp only [List.length_cons] at this
    omega
  have hk0 : k < s.size := by omega
  have hk1 : k + 1 < s.size := by omega
  have g0 : s[k] = 92 := get_of hd hk0
  have g1 : s[k + 1] = 34 := get_of (drop_next hd) hk1
  have hi0 : (k : Int) < (s.size : Int) := by omega
  have hi1 : (k : Int) + 1 < (s.size : Int) := by omega
  have hne : ((k : Int) + 1 == (s.size : Int)) = false := by rw [beq_eq_false_iff_ne]; omega
  have HI := Hid.mk (fun u => Tryz.strings_IndexByte ⟨#[34, 92, 47, 98, 102, 110, 114, 116]⟩ 34 u)
  rw [show Lib.indexByte (ByteArray.mk #[34, 92, 47, 98, 102, 110, 114, 116]).data.toList (34 : Int).toNat.toUInt8 = 0 by decide] at HI
  clear hd
  go_enter Tryz.func173, Tryz.ntmps173
  go_wp2_with fail
  refine (HI.out _).mono ?_
  rintro e w1 ⟨rfl, hw⟩
  obtain rfl := hw.symm
  go_wp2_with fail
  go_ret2
  have hw : wrap32 34 = 34 := by first | decide | rfl | simp [wrap32]
  exact ⟨by show Ending.returned (.tuple #[.int .i32 (wrap32 34), .bool true]) = _; rw [hw], rfl⟩

set_option maxRecDepth 100000 in
set_option maxHeartbeats 1600000 in
theorem s_92 (s : ByteArray) (k : Nat) (post : List UInt8) (w : World) (hd : s.data.toList.drop k = 92 :: 92 :: post) (hs : s.size ≤ 4611686018427387904) :
    Calls Tryz.prog 173 #[.string s, .int .i64 (k : Int)] w fun e w' => e = .returned (.tuple #[.int .i32 92, .bool true]) ∧ w' = w := by
  have hlt : k + 2 ≤ s.size := by
    have := congrArg List.length hd
    rw [List.length_drop, Array.length_toList] at this
    have e2 : s.data.size = s.size := rfl
    simp only [List.length_cons] at this
    omega
  have hk0 : k < s.size := by omega
  have hk1 : k + 1 < s.size := by omega
  have g0 : s[k] = 92 := get_of hd hk0
  have g1 : s[k + 1] = 92 := get_of (drop_next hd) hk1
  have hi0 : (k : Int) < (s.size : Int) := by omega
  have hi1 : (k : Int) + 1 < (s.size : Int) := by omega
  have hne : ((k : Int) + 1 == (s.size : Int)) = false := by rw [beq_eq_false_iff_ne]; omega
  have HI := Hid.mk (fun u => Tryz.strings_IndexByte ⟨#[34, 92, 47, 98, 102, 110, 114, 116]⟩ 92 u)
  rw [show Lib.indexByte (ByteArray.mk #[34, 92, 47, 98, 102, 110, 114, 116]).data.toList (92 : Int).toNat.toUInt8 = 1 by decide] at HI
  clear hd
  go_enter Tryz.func173, Tryz.ntmps173
  go_wp2_with fail
  refine (HI.out _).mono ?_
  rintro e w1 ⟨rfl, hw⟩
  obtain rfl := hw.symm
  go_wp2_with fail
  go_ret2
  have hw : wrap32 92 = 92 := by first | decide | rfl | simp [wrap32]
  exact ⟨by show Ending.returned (.tuple #[.int .i32 (wrap32 92), .bool true]) = _; rw [hw], rfl⟩

set_option maxRecDepth 100000 in
set_option maxHeartbeats 1600000 in
theorem s_8 (s : ByteArray) (k : Nat) (post : List UInt8) (w : World) (hd : s.data.toList.drop k = 92 :: 98 :: post) (hs : s.size ≤ 4611686018427387904) :
    Calls Tryz.prog 173 #[.string s, .int .i64 (k : Int)] w fun e w' => e = .returned (.tuple #[.int .i32 8, .bool true]) ∧ w' = w := by
  have hlt : k + 2 ≤ s.size := by
    have := congrArg List.length hd
    rw [List.length_drop, Array.length_toList] at this
    have e2 : s.data.size = s.size := rfl
    simp only [List.length_cons] at this
    omega
  have hk0 : k < s.size := by omega
  have hk1 : k + 1 < s.size := by omega
  have g0 : s[k] = 92 := get_of hd hk0
  have g1 : s[k + 1] = 98 := get_of (drop_next hd) hk1
  have hi0 : (k : Int) < (s.size : Int) := by omega
  have hi1 : (k : Int) + 1 < (s.size : Int) := by omega
  have hne : ((k : Int) + 1 == (s.size : Int)) = false := by rw [beq_eq_false_iff_ne]; omega
  have HI := Hid.mk (fun u => Tryz.strings_IndexByte ⟨#[34, 92, 47, 98, 102, 110, 114, 116]⟩ 98 u)
  rw [show Lib.indexByte (ByteArray.mk #[34, 92, 47, 98, 102, 110, 114, 116]).data.toList (98 : Int).toNat.toUInt8 = 3 by decide] at HI
  clear hd
  go_enter Tryz.func173, Tryz.ntmps173
  go_wp2_with fail
  refine (HI.out _).mono ?_
  rintro e w1 ⟨rfl, hw⟩
  obtain rfl := hw.symm
  go_wp2_with fail
  go_ret2
  have hw : wrap32 8 = 8 := by first | decide | rfl | simp [wrap32]
  exact ⟨by show Ending.returned (.tuple #[.int .i32 (wrap32 8), .bool true]) = _; rw [hw], rfl⟩

set_option maxRecDepth 100000 in
set_option maxHeartbeats 1600000 in
theorem s_12 (s : ByteArray) (k : Nat) (post : List UInt8) (w : World) (hd : s.data.toList.drop k = 92 :: 102 :: post) (hs : s.size ≤ 4611686018427387904) :
    Calls Tryz.prog 173 #[.string s, .int .i64 (k : Int)] w fun e w' => e = .returned (.tuple #[.int .i32 12, .bool true]) ∧ w' = w := by
  have hlt : k + 2 ≤ s.size := by
    have := congrArg List.length hd
    rw [List.length_drop, Array.length_toList] at this
    have e2 : s.data.size = s.size := rfl
    simp only [List.length_cons] at this
    omega
  have hk0 : k < s.size := by omega
  have hk1 : k + 1 < s.size := by omega
  have g0 : s[k] = 92 := get_of hd hk0
  have g1 : s[k + 1] = 102 := get_of (drop_next hd) hk1
  have hi0 : (k : Int) < (s.size : Int) := by omega
  have hi1 : (k : Int) + 1 < (s.size : Int) := by omega
  have hne : ((k : Int) + 1 == (s.size : Int)) = false := by rw [beq_eq_false_iff_ne]; omega
  have HI := Hid.mk (fun u => Tryz.strings_IndexByte ⟨#[34, 92, 47, 98, 102, 110, 114, 116]⟩ 102 u)
  rw [show Lib.indexByte (ByteArray.mk #[34, 92, 47, 98, 102, 110, 114, 116]).data.toList (102 : Int).toNat.toUInt8 = 4 by decide] at HI
  clear hd
  go_enter Tryz.func173, Tryz.ntmps173
  go_wp2_with fail
  refine (HI.out _).mono ?_
  rintro e w1 ⟨rfl, hw⟩
  obtain rfl := hw.symm
  go_wp2_with fail
  go_ret2
  have hw : wrap32 12 = 12 := by first | decide | rfl | simp [wrap32]
  exact ⟨by show Ending.returned (.tuple #[.int .i32 (wrap32 12), .bool true]) = _; rw [hw], rfl⟩

set_option maxRecDepth 100000 in
set_option maxHeartbeats 1600000 in
theorem s_10 (s : ByteArray) (k : Nat) (post : List UInt8) (w : World) (hd : s.data.toList.drop k = 92 :: 110 :: post) (hs : s.size ≤ 4611686018427387904) :
    Calls Tryz.prog 173 #[.string s, .int .i64 (k : Int)] w fun e w' => e = .returned (.tuple #[.int .i32 10, .bool true]) ∧ w' = w := by
  have hlt : k + 2 ≤ s.size := by
    have := congrArg List.length hd
    rw [List.length_drop, Array.length_toList] at this
    have e2 : s.data.size = s.size := rfl
    simp only [List.length_cons] at this
    omega
  have hk0 : k < s.size := by omega
  have hk1 : k + 1 < s.size := by omega
  have g0 : s[k] = 92 := get_of hd hk0
  have g1 : s[k + 1] = 110 := get_of (drop_next hd) hk1
  have hi0 : (k : Int) < (s.size : Int) := by omega
  have hi1 : (k : Int) + 1 < (s.size : Int) := by omega
  have hne : ((k : Int) + 1 == (s.size : Int)) = false := by rw [beq_eq_false_iff_ne]; omega
  have HI := Hid.mk (fun u => Tryz.strings_IndexByte ⟨#[34, 92, 47, 98, 102, 110, 114, 116]⟩ 110 u)
  rw [show Lib.indexByte (ByteArray.mk #[34, 92, 47, 98, 102, 110, 114, 116]).data.toList (110 : Int).toNat.toUInt8 = 5 by decide] at HI
  clear hd
  go_enter Tryz.func173, Tryz.ntmps173
  go_wp2_with fail
  refine (HI.out _).mono ?_
  rintro e w1 ⟨rfl, hw⟩
  obtain rfl := hw.symm
  go_wp2_with fail
  go_ret2
  have hw : wrap32 10 = 10 := by first | decide | rfl | simp [wrap32]
  exact ⟨by show Ending.returned (.tuple #[.int .i32 (wrap32 10), .bool true]) = _; rw [hw], rfl⟩

set_option maxRecDepth 100000 in
set_option maxHeartbeats 1600000 in
theorem s_13 (s : ByteArray) (k : Nat) (post : List UInt8) (w : World) (hd : s.data.toList.drop k = 92 :: 114 :: post) (hs : s.size ≤ 4611686018427387904) :
    Calls Tryz.prog 173 #[.string s, .int .i64 (k : Int)] w fun e w' => e = .returned (.tuple #[.int .i32 13, .bool true]) ∧ w' = w := by
  have hlt : k + 2 ≤ s.size := by
    have := congrArg List.length hd
    rw [List.length_drop, Array.length_toList] at this
    have e2 : s.data.size = s.size := rfl
    simp only [List.length_cons] at this
    omega
  have hk0 : k < s.size := by omega
  have hk1 : k + 1 < s.size := by omega
  have g0 : s[k] = 92 := get_of hd hk0
  have g1 : s[k + 1] = 114 := get_of (drop_next hd) hk1
  have hi0 : (k : Int) < (s.size : Int) := by omega
  have hi1 : (k : Int) + 1 < (s.size : Int) := by omega
  have hne : ((k : Int) + 1 == (s.size : Int)) = false := by rw [beq_eq_false_iff_ne]; omega
  have HI := Hid.mk (fun u => Tryz.strings_IndexByte ⟨#[34, 92, 47, 98, 102, 110, 114, 116]⟩ 114 u)
  rw [show Lib.indexByte (ByteArray.mk #[34, 92, 47, 98, 102, 110, 114, 116]).data.toList (114 : Int).toNat.toUInt8 = 6 by decide] at HI
  clear hd
  go_enter Tryz.func173, Tryz.ntmps173
  go_wp2_with fail
  refine (HI.out _).mono ?_
  rintro e w1 ⟨rfl, hw⟩
  obtain rfl := hw.symm
  go_wp2_with fail
  go_ret2
  have hw : wrap32 13 = 13 := by first | decide | rfl | simp [wrap32]
  exact ⟨by show Ending.returned (.tuple #[.int .i32 (wrap32 13), .bool true]) = _; rw [hw], rfl⟩

set_option maxRecDepth 100000 in
set_option maxHeartbeats 1600000 in
theorem s_9 (s : ByteArray) (k : Nat) (post : List UInt8) (w : World) (hd : s.data.toList.drop k = 92 :: 116 :: post) (hs : s.size ≤ 4611686018427387904) :
    Calls Tryz.prog 173 #[.string s, .int .i64 (k : Int)] w fun e w' => e = .returned (.tuple #[.int .i32 9, .bool true]) ∧ w' = w := by
  have hlt : k + 2 ≤ s.size := by
    have := congrArg List.length hd
    rw [List.length_drop, Array.length_toList] at this
    have e2 : s.data.size = s.size := rfl
    simp only [List.length_cons] at this
    omega
  have hk0 : k < s.size := by omega
  have hk1 : k + 1 < s.size := by omega
  have g0 : s[k] = 92 := get_of hd hk0
  have g1 : s[k + 1] = 116 := get_of (drop_next hd) hk1
  have hi0 : (k : Int) < (s.size : Int) := by omega
  have hi1 : (k : Int) + 1 < (s.size : Int) := by omega
  have hne : ((k : Int) + 1 == (s.size : Int)) = false := by rw [beq_eq_false_iff_ne]; omega
  have HI := Hid.mk (fun u => Tryz.strings_IndexByte ⟨#[34, 92, 47, 98, 102, 110, 114, 116]⟩ 116 u)
  rw [show Lib.indexByte (ByteArray.mk #[34, 92, 47, 98, 102, 110, 114, 116]).data.toList (116 : Int).toNat.toUInt8 = 7 by decide] at HI
  clear hd
  go_enter Tryz.func173, Tryz.ntmps173
  go_wp2_with fail
  refine (HI.out _).mono ?_
  rintro e w1 ⟨rfl, hw⟩
  obtain rfl := hw.symm
  go_wp2_with fail
  go_ret2
  have hw : wrap32 9 = 9 := by first | decide | rfl | simp [wrap32]
  exact ⟨by show Ending.returned (.tuple #[.int .i32 (wrap32 9), .bool true]) = _; rw [hw], rfl⟩

theorem w_shortAt_s (s : ByteArray) (k : Nat) (z : Nat) (c : UInt8) (post : List UInt8) (w : World) (hz : sgn z = some c) (hd : s.data.toList.drop k = 92 :: c :: post) (hs : s.size ≤ 4611686018427387904) :
    Calls Tryz.prog 173 #[.string s, .int .i64 (k : Int)] w fun e w' => e = .returned (.tuple #[.int .i32 (z : Int), .bool true]) ∧ w' = w := by
  unfold sgn at hz
  by_cases h34 : z = 34
  · subst h34; cases hz; exact s_34 s k post w hd hs
  rw [if_neg h34] at hz
  by_cases h92 : z = 92
  · subst h92; cases hz; exact s_92 s k post w hd hs
  rw [if_neg h92] at hz
  by_cases h8 : z = 8
  · subst h8; cases hz; exact s_8 s k post w hd hs
  rw [if_neg h8] at hz
  by_cases h12 : z = 12
  · subst h12; cases hz; exact s_12 s k post w hd hs
  rw [if_neg h12] at hz
  by_cases h10 : z = 10
  · subst h10; cases hz; exact s_10 s k post w hd hs
  rw [if_neg h10] at hz
  by_cases h13 : z = 13
  · subst h13; cases hz; exact s_13 s k post w hd hs
  rw [if_neg h13] at hz
  by_cases h9 : z = 9
  · subst h9; cases hz; exact s_9 s k post w hd hs
  rw [if_neg h9] at hz
  cases hz

set_option maxRecDepth 100000 in
set_option maxHeartbeats 1600000 in
theorem w_Escape_short (s : ByteArray) (k : Nat) (z : Nat) (c : UInt8) (post : List UInt8) (w : World) (hz : sgn z = some c) (hd : s.data.toList.drop k = 92 :: c :: post) (hs : s.size ≤ 4611686018427387904) :
    Calls Tryz.prog 156 #[.string s, .int .i64 (k : Int)] w fun e w' => e = .returned (.tuple #[.int .i32 (z : Int), .int .i64 ((k : Int) + 2), .int .i64 0]) ∧ w' = w := by
  have hlt : k < s.size := by
    have := congrArg List.length hd
    rw [List.length_drop, Array.length_toList] at this
    have e2 : s.data.size = s.size := rfl
    simp only [List.length_cons] at this
    omega
  have HP := Hid.mk (fun u => w_isPlace s k u hlt)
  have HS := Hid.mk (fun u => w_shortAt_s s k z c post u hz hd hs)
  clear hd hz
  go_enter Tryz.func156, Tryz.ntmps156
  go_wp2_with fail
  refine (HP.out _).mono ?_
  rintro e w1 ⟨rfl, hw⟩
  obtain rfl := hw.symm
  go_wp2_with fail
  refine (HS.out _).mono ?_
  rintro e w1 ⟨rfl, hw⟩
  obtain rfl := hw.symm
  go_wp2_with fail
  refine bodyPost_ret (v := .tuple #[.int .i32 (z : Int), .int .i64 ((k : Int) + 2), .int .i64 0]) (by simp [results, Tryz.results156, go_sem]) rfl ?_
  exact ⟨rfl, rfl⟩
end Go.Proofs.YtdmkfdaddacdhaaGreatDoor
namespace Go.Proofs.YtdmkfdaddacdhaaGreatDoor
open Go.RowKit
set_option linter.unusedVariables false
set_option linter.unusedSimpArgs false

theorem conv_zero (w : World) (p : Option Addr) (c : Nat) : (convert 85 9 (.slice p 0 c)).run Tryz.prog w = .ok (.string ByteArray.empty) w := by
  rw [run_convert_bytes_string w 85 9 5 _ 0 c Tryz.underlying85 Tryz.underlying5 Tryz.underlying9]
  cases p <;> simp [Conv.bytesToString, loadCells]
  all_goals rfl
theorem conv_own {wr : World} {base n : Nat} {l : List UInt8} {ao : Option Addr} {cap : Nat} (h1 : l.length = n) (h3 : wr.ownsRow base 5 1 (.slice ao n cap) n (Lib.byteCells l)) : (convert 85 9 (.slice ao n cap)).run Tryz.prog wr = .ok (.string ⟨l.toArray⟩) wr := by
  by_cases hn : 0 < n
  · obtain ⟨g, cap', hv⟩ := own_some h3 hn
    cases hv
    exact bytes_conv h1 h3
  · have e : n = 0 := by omega
    subst e
    have e2 : l = [] := List.eq_nil_of_length_eq_zero h1
    subst e2
    exact conv_zero wr ao cap

theorem txt_len' (zs : List Nat) : (txt zs).length ≤ 4 * zs.length := by
  induction zs with
  | nil => exact Nat.le_refl _
  | cons z r ih =>
    have e2 : txt (z :: r) = enc z ++ txt r := rfl
    have := (enc_len z).2
    rw [e2, List.length_append, List.length_cons]; omega
theorem qb_ge (zs : List Nat) : zs.length ≤ (qb zs).length := by
  induction zs with
  | nil => exact Nat.le_refl _
  | cons z r ih => have := (qd_len z).1; rw [qb_cons, List.length_append, List.length_cons]; omega
theorem txt_snoc (zs : List Nat) (z : Nat) : txt (zs ++ [z]) = txt zs ++ enc z := by simp [txt]

/-- a byte of an escape is its own piece -/
theorem dec_ascii (c : UInt8) (l : List UInt8) (h : c.toNat < 128) : decL (c :: l) = (c.toNat, 1) := dec1 l rfl h

/-- while a literal is read: m is what is left of an escape that has been taken -/
structure UnSt (B k0 : Nat) (w wr : World) (v : Value) (n : Nat) (T : ByteArray) (tail : List UInt8) (zs : List Nat) (pos m : Nat) : Prop where
  iter : wr.heap[k0]? = some (.stringIter T pos)
  below : Below B w wr
  own : ∃ done rest ms, (txt done).length = n ∧ wr.ownsRow B 5 1 v n (Lib.byteCells (txt done)) ∧ done ++ rest = zs ∧ ms.length = m ∧ (∀ c ∈ ms, c.toNat < 128) ∧ T.data.toList.drop pos = ms ++ (qb rest ++ 34 :: tail)

theorem unit_ascii (n : Nat) (h : n < 65536) : ∀ c ∈ unit n, c.toNat < 128 := by
  have hh : ∀ i, i < 16 → (hx i).toNat < 128 := by decide
  intro c hc
  unfold unit at hc
  simp only [List.mem_cons, List.not_mem_nil, or_false] at hc
  rcases hc with rfl | rfl | rfl | rfl | rfl | rfl
  · decide
  · decide
  · exact hh _ (by omega)
  · exact hh _ (by omega)
  · exact hh _ (by omega)
  · exact hh _ (by omega)
theorem sgn_ascii {z : Nat} {c : UInt8} (h : sgn z = some c) : c.toNat < 128 := by
  unfold sgn at h
  repeat' split at h
  all_goals first | cases h; decide | cases h
theorem sgn_lt {z : Nat} {c : UInt8} (h : sgn z = some c) : z < 128 := by
  unfold sgn at h
  repeat' split at h
  all_goals first | omega | cases h

theorem un_rune {B k0 n q z : Nat} {w W : World} {v : Value} {T : ByteArray} {tail ms : List UInt8} {zs done rest : List Nat} (hi : W.heap[k0]? = some (.stringIter T q)) (hb : Below B w W) (hB : B ≤ W.heap.size) (hn : (txt done).length = n) (hown : W.ownsRow B 5 1 v n (Lib.byteCells (txt done))) (hz : isR z) (hd : done ++ z :: rest = zs) (hasc : ∀ c ∈ ms, c.toNat < 128) (hdrop : T.data.toList.drop q = ms ++ (qb rest ++ 34 :: tail)) (hlim : n ≤ 4398046511104) :
    Calls Tryz.prog 157 #[v, .int .i32 (z : Int)] W fun e w' => ∃ ao cap, e = .returned (.slice ao (n + (enc z).length) cap) ∧ Hid (UnSt B k0 w w' (.slice ao (n + (enc z).length) cap) (n + (enc z).length) T tail zs q ms.length) := by
  have hlt : z ≤ 1114111 := by unfold isR at hz; omega
  have HA := Tryz.utf8_AppendRune_plain B v n (Lib.byteCells (txt done)) (z : Int) (by omega) (by omega) W hown (by omega) hB
  have hcells : Lib.runeCells (z : Int) = Lib.byteCells (enc z) := by rw [← Lib.byteCells_encodeRune, encodeRune_enc z hz]
  have hlen : (Lib.byteCells (enc z)).length = (enc z).length := by simp [Lib.byteCells]
  rw [hcells, hlen] at HA
  refine HA.mono ?_
  rintro e w1 ⟨v1, rfl, hown1, o, hg1⟩
  obtain ⟨so, sc, rfl⟩ := own_shape hown1
  refine ⟨so, sc, rfl, ⟨iter_kept hown hi (grown_after hg1), below_app hown hB hb hg1, done ++ [z], rest, ms, ?_, ?_, ?_, rfl, hasc, hdrop⟩⟩
  · rw [txt_snoc, List.length_append, hn]
  · rw [txt_snoc, Lib.byteCells_append]; exact hown1
  · rw [← hd]; simp

set_option maxRecDepth 100000 in
set_option maxHeartbeats 6400000 in
theorem w_Unquote_lit (s : ByteArray) (pre tail : List UInt8) (zs : List Nat) (w : World) (hR : ∀ z ∈ zs, isR z) (he : s.data.toList = pre ++ 34 :: (qb zs ++ 34 :: tail)) (hs : s.size ≤ 1099511627776) :
    Calls Tryz.prog 125 #[.string s, .int .i64 (pre.length : Int)] w fun e w' => e = .returned (.tuple #[.string ⟨(txt zs).toArray⟩, .int .i64 ((pre.length : Int) + 2 + ((qb zs).length : Int)), .int .i64 0]) ∧ Below w.heap.size w w' := by
  have hsl : s.data.toList.length = s.size := by rw [Array.length_toList]; rfl
  have hlen : s.size = pre.length + 2 + (qb zs).length + tail.length := by
    rw [← hsl, he]; simp only [List.length_append, List.length_cons]; omega
  obtain ⟨F, hF⟩ : ∃ F, F = pre.length + 1 := ⟨_, rfl⟩
  obtain ⟨T, hT⟩ : ∃ T, T = s.extract F s.size := ⟨_, rfl⟩
  have hTl : T.data.toList = qb zs ++ 34 :: tail := by
    rw [hT, extract_drop, he, hF, ← List.drop_drop, List.drop_append_of_le_length (Nat.le_refl _), List.drop_length]; rfl
  have hsd : ∀ p, s.data.toList.drop (F + p) = T.data.toList.drop p := by
    intro p; rw [hT, extract_drop, List.drop_drop]
  have hTs : T.size = (qb zs).length + 1 + tail.length := by
    have e : T.data.toList.length = T.size := by rw [Array.length_toList]; rfl
    rw [← e, hTl]; simp only [List.length_append, List.length_cons]; omega
  have HP := Hid.mk (fun u => w_isPlace s pre.length u (by omega))
  have hk0 : pre.length < s.size := by omega
  have g0 : s[pre.length] = 34 := get_of (r := qb zs ++ 34 :: tail) (by rw [he, List.drop_append_of_le_length (Nat.le_refl _), List.drop_length]; rfl) hk0
  obtain ⟨K, hK⟩ : ∃ K, K = pre.length := ⟨_, rfl⟩
  rw [← hK] at HP hlen hF
  have hi0 : (K : Int) < (s.size : Int) := by omega
  have hi1 : (K : Int) + 1 ≤ (s.size : Int) := by omega
  have hKs : K < s.size := by omega
  have g0' : s[K]'hKs = 34 := by subst hK; exact g0
  have hT' : s.extract (K + 1) s.size = T := by rw [hT, hF]
  have HF := Hid.mk hF
  have HLen := Hid.mk hlen
  have HTS := Hid.mk hTs
  have HSD := Hid.mk hsd
  have HTL := Hid.mk hTl
  have hzl := qb_ge zs
  have hz40 : zs.length ≤ 1099511627776 := by omega
  have HRR := Hid.mk hR
  rw [← hK]
  have HZ := Hid.mk he
  clear he g0 hk0 hT hK hsl hF hlen hTs hsd hTl hzl hR
  go_enter Tryz.func125, Tryz.ntmps125
  go_wp2_with fail
  refine (HP.out _).mono ?_
  rintro e w1 ⟨rfl, hw⟩
  obtain rfl := hw.symm
  go_wp2_with fail
  clear hT'
  go_loopw [7, 9] (fun vt vn wr => ∃ (pos n m nx : Nat) (ao : Option Addr) (cap : Nat), pos ≤ T.size ∧ vt = .slice ao n cap ∧ vn = .int .i64 (nx : Int) ∧ nx ≤ K + 1 + pos + m ∧ (0 < m → nx = K + 1 + pos + m) ∧ Hid (UnSt w.heap.size w.heap.size w wr (.slice ao n cap) n T tail zs pos m)) (fun _ _ wr => T.size - wr.iterPos w.heap.size)
  case atStart =>
    refine ⟨0, 0, 0, K + 1, none, 0, Nat.zero_le _, rfl, by go_num, by omega, by omega, ⟨World.iter_heap w T 0, iter_below w T 0, [], zs, [], rfl, World.ownsRow_nil _ _ _ _, rfl, rfl, (fun c hc => by cases hc), ?_⟩⟩
    rw [List.drop_zero, HTL.out]; rfl
  case round =>
    obtain ⟨pos, n, m, nx, ao, cap, hpos, rfl, rfl, hnx, hnx2, HQ⟩ := hrel
    have hkr := HQ.out.iter
    have HM : Hid (wr.iterPos w.heap.size = pos) := iterPos_of hkr
    obtain ⟨done, rest, ms, hdn, hown, hdr, hml, hasc, hdrop⟩ := HQ.out.own
    have hTT : T.data.toList.length = T.size := by rw [Array.length_toList]; rfl
    have hp : pos < T.size := by
      have := congrArg List.length hdrop
      rw [List.length_drop, hTT] at this
      simp only [List.length_append, List.length_cons] at this
      omega
    have hTsz := HTS.out
    have hLsz := HLen.out
    have hKp : K + 1 + pos < s.size := by omega
    have hn42 : n ≤ 4398046511104 := by
      have h1 := txt_len' done
      have h2 := congrArg List.length hdr
      rw [List.length_append] at h2
      omega
    clear hTsz hLsz
    cases ms with
    | cons c ms' =>
      have hd := dec_ascii c (ms' ++ (qb rest ++ 34 :: tail)) (hasc c (List.mem_cons_self ..))
      have hd2 : decL (T.data.toList.drop pos) = (c.toNat, 1) := by rw [hdrop]; exact hd
      obtain ⟨W1, hW1⟩ : ∃ W : World, W = wr.iterAt w.heap.size T (pos + 1) := ⟨_, rfl⟩
      have hn1 := nxtAt wr w.heap.size T pos c.toNat (pos + 1) hkr hp (by rw [decode_eq T pos hpos, hd2]; simp) (by omega)
      have hk1 := Lib.iterAt_heap wr w.heap.size T pos (pos + 1) hkr
      have ho1 := own_iterAt hown hkr (pos + 1)
      have hB1 := Lib.below_iterAt HQ.out.below (Nat.le_refl _) T (pos + 1)
      rw [← hW1] at hn1 hk1 ho1 hB1
      have hml' : ms'.length + 1 = m := by simpa using hml
      have HN : Hid (UnSt w.heap.size w.heap.size w W1 (.slice ao n cap) n T tail zs (pos + 1) ms'.length) :=
        ⟨hk1, hB1, done, rest, ms', hdn, ho1, hdr, rfl, fun x hx => hasc x (List.mem_cons_of_mem _ hx), by rw [← List.drop_drop, hdrop]; rfl⟩
      have HM1 : Hid (W1.iterPos w.heap.size = pos + 1) := iterPos_of hk1
      have hcond : (K : Int) + 1 + (pos : Int) < (nx : Int) := by omega
      have hnx3 : nx = K + 1 + (pos + 1) + ms'.length := by omega
      have HNX := Hid.mk hnx3
      clear hW1 hk1 ho1 hB1 hd hd2 hown hdn hdr hasc hdrop hml hkr hnx2 hnx3 hml' hTT
      generalize (c.toNat : Int) = cz at *
      go_wp2_with fail
      go_roundw
      case rel => exact ⟨pos + 1, n, ms'.length, nx, ao, cap, by omega, rfl, rfl, by have := HNX.out; omega, fun _ => HNX.out, HN⟩
      case measure => rw [HM1.out, HM.out]; omega
    | nil =>
      have hm0 : m = 0 := by simpa using hml.symm
      subst hm0
      have hcond : ¬ (K : Int) + 1 + (pos : Int) < (nx : Int) := by omega
      have hdrop' : T.data.toList.drop pos = qb rest ++ 34 :: tail := hdrop
      have hsdp : s.data.toList.drop (K + 1 + pos) = qb rest ++ 34 :: tail := by rw [← hdrop', ← HSD.out pos, HF.out]
      cases rest with
      | nil =>
        have hd2 : decL (T.data.toList.drop pos) = (34, 1) := by rw [hdrop']; exact dec_ascii 34 tail (by decide)
        obtain ⟨W1, hW1⟩ : ∃ W : World, W = wr.iterAt w.heap.size T (pos + 1) := ⟨_, rfl⟩
        have hn1 := nxtAt wr w.heap.size T pos 34 (pos + 1) hkr hp (by rw [decode_eq T pos hpos, hd2]; simp) (by omega)
        have ho1 := own_iterAt hown hkr (pos + 1)
        have hB1 := Lib.below_iterAt HQ.out.below (Nat.le_refl _) T (pos + 1)
        rw [← hW1] at hn1 ho1 hB1
        have hcv := conv_own hdn ho1
        have hdz : done = zs := by rw [← hdr]; simp
        have hpq : pos = (qb zs).length := by
          have := congrArg List.length hdrop'
          rw [List.length_drop, hTT] at this
          have e1 : (qb ([] : List Nat) ++ 34 :: tail).length = tail.length + 1 := rfl
          rw [e1] at this
          have := HTS.out
          omega
        rw [hdz] at hcv
        have HB := Hid.mk hB1
        have HPQ := Hid.mk hpq
        clear hW1 ho1 hB1 hd2 hown hdn hdr hasc hdrop hdrop' hsdp hml hkr hnx2 hTT hdz hpq
        go_wp2_with fail
        refine bodyPost_ret (v := .tuple #[.string ⟨(txt zs).toArray⟩, .int .i64 ((K : Int) + 1 + (pos : Int) + 1), .int .i64 0]) (by simp [results, Tryz.results125, go_sem]) rfl ?_
        refine ⟨?_, HB.out⟩
        have e : (K : Int) + 1 + (pos : Int) + 1 = (K : Int) + 2 + ((qb zs).length : Int) := by have := HPQ.out; omega
        rw [e]
      | cons z rest' =>
        have hzR : isR z := HRR.out z (by rw [← hdr]; simp)
        have hqb : qb (z :: rest') ++ 34 :: tail = qd z ++ (qb rest' ++ 34 :: tail) := by rw [qb_cons, List.append_assoc]
        rw [hqb] at hdrop' hsdp
        have hpc : ((K + 1 + pos : Nat) : Int) = (K : Int) + 1 + (pos : Int) := by omega
        have hssz : s.size ≤ 4611686018427387904 := by omega
        cases hsg : sgn z with
        | some c =>
          have hqz : qd z = [92, c] := by unfold qd; rw [hsg]
          rw [hqz] at hdrop' hsdp
          have hd2 : decL (T.data.toList.drop pos) = (92, 1) := by rw [hdrop']; exact dec_ascii 92 _ (by decide)
          obtain ⟨W1, hW1⟩ : ∃ W : World, W = wr.iterAt w.heap.size T (pos + 1) := ⟨_, rfl⟩
          have hn1 := nxtAt wr w.heap.size T pos 92 (pos + 1) hkr hp (by rw [decode_eq T pos hpos, hd2]; simp) (by omega)
          have hk1 := Lib.iterAt_heap wr w.heap.size T pos (pos + 1) hkr
          have ho1 := own_iterAt hown hkr (pos + 1)
          have hB1 := Lib.below_iterAt HQ.out.below (Nat.le_refl _) T (pos + 1)
          rw [← hW1] at hn1 hk1 ho1 hB1
          have HST := Hid.mk (fun u => w_stray_no s ((K : Int) + 1 + (pos : Int)) 92 u (by decide))
          have HES := Hid.mk (fun u => w_Escape_short s (K + 1 + pos) z c (qb rest' ++ 34 :: tail) u hsg hsdp hssz)
          rw [hpc] at HES
          have HAp := Hid.mk (un_rune (rest := rest') (ms := [c]) (tail := tail) hk1 hB1 hB1.size hdn ho1 hzR hdr (by intro x hx; simp at hx; subst hx; exact sgn_ascii hsg) (by rw [← List.drop_drop, hdrop']; rfl) hn42)
          have he4 := enc_len z
          have hnx5 : ((K : Int) + 1 + (pos : Int) + 2) = ((K + 1 + (pos + 1) + 1 : Nat) : Int) := by omega
          have HNX := Hid.mk hnx5
          clear hW1 hk1 ho1 hB1 hd2 hown hdn hdr hasc hdrop hdrop' hsdp hml hkr hnx2 hTT hsg hqz hqb hpc hzR hnx5
          go_wp2_with fail
          refine (HST.out _).mono ?_
          rintro e w2 ⟨rfl, hw⟩
          obtain rfl := hw.symm
          go_wp2_with fail
          refine (HES.out _).mono ?_
          rintro e w2 ⟨rfl, hw⟩
          obtain rfl := hw.symm
          go_wp2_with fail
          refine HAp.out.mono ?_
          rintro e w3 ⟨ao3, cap3, rfl, HN3⟩
          have HM3 : Hid (w3.iterPos w.heap.size = pos + 1) := iterPos_of HN3.out.iter
          go_wp2_with fail
          go_roundw
          case rel => exact ⟨pos + 1, n + (enc z).length, 1, K + 1 + (pos + 1) + 1, ao3, cap3, by omega, rfl, by rw [HNX.out], by omega, fun _ => rfl, HN3⟩
          case measure => rw [HM3.out, HM.out]; omega
        | none =>
          by_cases hnum : z < 32 ∨ z = 127
          · have hqz : qd z = unit z := by unfold qd; rw [hsg]; simp [hnum]
            rw [hqz] at hdrop' hsdp
            have hd2 : decL (T.data.toList.drop pos) = (92, 1) := by rw [hdrop']; exact dec_ascii 92 _ (by decide)
            obtain ⟨W1, hW1⟩ : ∃ W : World, W = wr.iterAt w.heap.size T (pos + 1) := ⟨_, rfl⟩
            have hn1 := nxtAt wr w.heap.size T pos 92 (pos + 1) hkr hp (by rw [decode_eq T pos hpos, hd2]; simp) (by omega)
            have hk1 := Lib.iterAt_heap wr w.heap.size T pos (pos + 1) hkr
            have ho1 := own_iterAt hown hkr (pos + 1)
            have hB1 := Lib.below_iterAt HQ.out.below (Nat.le_refl _) T (pos + 1)
            rw [← hW1] at hn1 hk1 ho1 hB1
            have HST := Hid.mk (fun u => w_stray_no s ((K : Int) + 1 + (pos : Int)) 92 u (by decide))
            have hz6 : z < 65536 := by omega
            have HES : Hid (∀ u, Calls Tryz.prog 156 #[.string s, .int .i64 ((K : Int) + 1 + (pos : Int))] u fun e w' => e = .returned (.tuple #[.int .i32 (z : Int), .int .i64 ((K : Int) + 1 + (pos : Int) + 6), .int .i64 0]) ∧ Below u.heap.size u w') := by
              intro u
              have hnum := num_at s (s.data.toList.take (K + 1 + pos)) (qb rest' ++ 34 :: tail) z hz6 (by rw [List.append_assoc, ← hsdp, List.take_append_drop])
              have hl2 : (s.data.toList.take (K + 1 + pos)).length = K + 1 + pos := by
                rw [List.length_take, Array.length_toList]
                have e2 : s.data.size = s.size := rfl
                omega
              rw [hl2] at hnum
              have := w_Escape_one s (K + 1 + pos) (four z) u hnum hssz (by rw [four_val z hz6]; omega)
              rw [four_val z hz6, hpc] at this
              exact this
            have HAp : Hid (∀ u, Below W1.heap.size W1 u → Calls Tryz.prog 157 #[.slice ao n cap, .int .i32 (z : Int)] u fun e w' => ∃ ao cap, e = .returned (.slice ao (n + (enc z).length) cap) ∧ Hid (UnSt w.heap.size w.heap.size w w' (.slice ao (n + (enc z).length) cap) (n + (enc z).length) T tail zs (pos + 1) 5)) := by
              intro u hu
              have hk2 : u.heap[w.heap.size]? = some (.stringIter T (pos + 1)) := by
                rw [hu.block w.heap.size (Array.getElem?_eq_some_iff.1 hk1).1]; exact hk1
              exact un_rune (rest := rest') (ms := 117 :: four z) (tail := tail) hk2 (hB1.trans (hu.mono hB1.size)) (Nat.le_trans hB1.size hu.size) hdn (own_below ho1 hu) hzR hdr (fun x hx => unit_ascii z hz6 x (List.mem_cons_of_mem _ hx)) (by rw [← List.drop_drop, hdrop']; rfl) hn42
            have he4 := enc_len z
            have hnx5 : ((K : Int) + 1 + (pos : Int) + 6) = ((K + 1 + (pos + 1) + 5 : Nat) : Int) := by omega
            have HNX := Hid.mk hnx5
            clear hW1 hk1 ho1 hB1 hd2 hown hdn hdr hasc hdrop hdrop' hsdp hml hkr hnx2 hTT hsg hqz hqb hpc hzR hnx5 hnum hz6
            go_wp2_with fail
            refine (HST.out _).mono ?_
            rintro e w2 ⟨rfl, hw⟩
            obtain rfl := hw.symm
            go_wp2_with fail
            refine (HES.out _).mono ?_
            rintro e w2 ⟨rfl, hb2⟩
            have hst := HAp.out _ hb2
            clear hb2
            go_wp2_with fail
            refine hst.mono ?_
            rintro e w3 ⟨ao3, cap3, rfl, HN3⟩
            have HM3 : Hid (w3.iterPos w.heap.size = pos + 1) := iterPos_of HN3.out.iter
            clear hst
            go_wp2_with fail
            go_roundw
            case rel => exact ⟨pos + 1, n + (enc z).length, 5, K + 1 + (pos + 1) + 5, ao3, cap3, by omega, rfl, by rw [HNX.out], by omega, fun _ => rfl, HN3⟩
            case measure => rw [HM3.out, HM.out]; omega
          · have hqz : qd z = enc z := by unfold qd; rw [hsg]; simp [hnum]
            rw [hqz] at hdrop' hsdp
            have hd2 : decL (T.data.toList.drop pos) = (z, (enc z).length) := by rw [hdrop']; exact dec_enc z hzR _
            have he4 := enc_len z
            have hpl : pos + (enc z).length ≤ T.size := by
              have := congrArg List.length hdrop'
              rw [List.length_drop, hTT, List.length_append] at this
              omega
            obtain ⟨Q, hQ⟩ : ∃ Q, Q = pos + (enc z).length := ⟨_, rfl⟩
            obtain ⟨W1, hW1⟩ : ∃ W : World, W = wr.iterAt w.heap.size T Q := ⟨_, rfl⟩
            have hn1 := nxtAt wr w.heap.size T pos z Q hkr hp (by rw [decode_eq T pos hpos, hd2, hQ, Nat.add_sub_cancel_left]) (by omega)
            have hk1 := Lib.iterAt_heap wr w.heap.size T pos Q hkr
            have ho1 := own_iterAt hown hkr Q
            have hB1 := Lib.below_iterAt HQ.out.below (Nat.le_refl _) T Q
            rw [← hW1] at hn1 hk1 ho1 hB1
            have HST : Hid (∀ u, Calls Tryz.prog 155 #[.string s, .int .i64 ((K : Int) + 1 + (pos : Int)), .int .i32 (z : Int)] u fun e w' => e = .returned (.bool false) ∧ w' = u) := by
              intro u
              have := w_stray s (K + 1 + pos) z u (by omega)
              rw [hpc, hsdp] at this
              have h3 := stray_enc z hzR (qb rest' ++ 34 :: tail)
              unfold strayL at h3
              rw [dec_enc z hzR] at h3
              have h4 : (z == 65533 && !Lib.hasPrefix (enc z ++ (qb rest' ++ 34 :: tail)) [239, 191, 189]) = false := h3
              rw [h4] at this
              exact this
            have HAp := Hid.mk (un_rune (rest := rest') (ms := []) (tail := tail) hk1 hB1 hB1.size hdn ho1 hzR hdr (by intro x hx; cases hx) (by rw [hQ, ← List.drop_drop, hdrop', List.drop_append_of_le_length (Nat.le_refl _), List.drop_length]) hn42)
            have hne : z ≠ 34 ∧ z ≠ 92 := by
              constructor
              · intro e; subst e; exact absurd hsg (by decide)
              · intro e; subst e; exact absurd hsg (by decide)
            have q1 : ((z : Int) == 34) = false := by rw [beq_eq_false_iff_ne]; omega
            have q2 : ((z : Int) == 92) = false := by rw [beq_eq_false_iff_ne]; omega
            have q3 : ¬ (z : Int) < 32 := by omega
            have hQ2 : pos + 1 ≤ Q := by omega
            have hQ3 : Q ≤ T.size := by omega
            clear hW1 hk1 ho1 hB1 hd2 hown hdn hdr hasc hdrop hdrop' hsdp hml hkr hnx2 hTT hsg hqz hqb hpc hzR hnum hpl hne hQ
            go_wp2_with fail
            refine (HST.out _).mono ?_
            rintro e w2 ⟨rfl, hw⟩
            obtain rfl := hw.symm
            go_wp2_with fail
            refine HAp.out.mono ?_
            rintro e w3 ⟨ao3, cap3, rfl, HN3⟩
            have HM3 : Hid (w3.iterPos w.heap.size = Q) := iterPos_of HN3.out.iter
            go_wp2_with fail
            go_roundw
            case rel => exact ⟨Q, n + (enc z).length, 0, nx, ao3, cap3, hQ3, rfl, rfl, by omega, fun h => absurd h (by omega), HN3⟩
            case measure => rw [HM3.out, HM.out]; omega
end Go.Proofs.YtdmkfdaddacdhaaGreatDoor
namespace Go.Proofs.YtdmkfdaddacdhaaGreatDoor
open Go.RowKit
set_option linter.unusedVariables false
set_option linter.unusedSimpArgs false

set_option maxRecDepth 100000 in
set_option maxHeartbeats 1600000 in
theorem s_47 (s : ByteArray) (k : Nat) (post : List UInt8) (w : World) (hd : s.data.toList.drop k = 92 :: 47 :: post) (hs : s.size ≤ 4611686018427387904) :
    Calls Tryz.prog 173 #[.string s, .int .i64 (k : Int)] w fun e w' => e = .returned (.tuple #[.int .i32 47, .bool true]) ∧ w' = w := by
  have hlt : k + 2 ≤ s.size := by
    have := congrArg List.length hd
    rw [List.length_drop, Array.length_toList] at this
    have e2 : s.data.size = s.size := rfl
    simp only [List.length_cons] at this
    omega
  have hk0 : k < s.size := by omega
  have hk1 : k + 1 < s.size := by omega
  have g0 : s[k] = 92 := get_of hd hk0
  have g1 : s[k + 1] = 47 := get_of (drop_next hd) hk1
  have hi0 : (k : Int) < (s.size : Int) := by omega
  have hi1 : (k : Int) + 1 < (s.size : Int) := by omega
  have hne : ((k : Int) + 1 == (s.size : Int)) = false := by rw [beq_eq_false_iff_ne]; omega
  have HI := Hid.mk (fun u => Tryz.strings_IndexByte ⟨#[34, 92, 47, 98, 102, 110, 114, 116]⟩ 47 u)
  rw [show Lib.indexByte (ByteArray.mk #[34, 92, 47, 98, 102, 110, 114, 116]).data.toList (47 : Int).toNat.toUInt8 = 2 by decide] at HI
  clear hd
  go_enter Tryz.func173, Tryz.ntmps173
  go_wp2_with fail
  refine (HI.out _).mono ?_
  rintro e w1 ⟨rfl, hw⟩
  obtain rfl := hw.symm
  go_wp2_with fail
  go_ret2
  have hw : wrap32 47 = 47 := by first | decide | rfl | simp [wrap32]
  exact ⟨by show Ending.returned (.tuple #[.int .i32 (wrap32 47), .bool true]) = _; rw [hw], rfl⟩


/-- what a call that answers a rune and a word may answer -/
def RuneB (w w' : World) (e : Ending) (P : Int → Bool → Prop) : Prop := ∃ r b, e = .returned (.tuple #[.int .i32 r, .bool b]) ∧ P r b ∧ Below w.heap.size w w'

set_option maxRecDepth 100000 in
theorem sign_none (c : UInt8) (h : c ≠ 34 ∧ c ≠ 92 ∧ c ≠ 47 ∧ c ≠ 98 ∧ c ≠ 102 ∧ c ≠ 110 ∧ c ≠ 114 ∧ c ≠ 116) : Lib.indexByte (ByteArray.mk #[34, 92, 47, 98, 102, 110, 114, 116]).data.toList ((c.toNat : Nat) : Int).toNat.toUInt8 = -1 := by
  have : ∀ m : Fin 256, (m.val ≠ 34 ∧ m.val ≠ 92 ∧ m.val ≠ 47 ∧ m.val ≠ 98 ∧ m.val ≠ 102 ∧ m.val ≠ 110 ∧ m.val ≠ 114 ∧ m.val ≠ 116) → Lib.indexByte (ByteArray.mk #[34, 92, 47, 98, 102, 110, 114, 116]).data.toList ((m.val : Nat) : Int).toNat.toUInt8 = -1 := by decide
  have hn : ∀ k : UInt8, c ≠ k → c.toNat ≠ k.toNat := fun k hk e => hk (UInt8.toNat_inj.1 e)
  exact this ⟨c.toNat, c.toNat_lt⟩ ⟨hn 34 h.1, hn 92 h.2.1, hn 47 h.2.2.1, hn 98 h.2.2.2.1, hn 102 h.2.2.2.2.1, hn 110 h.2.2.2.2.2.1, hn 114 h.2.2.2.2.2.2.1, hn 116 h.2.2.2.2.2.2.2⟩

set_option maxRecDepth 100000 in
set_option maxHeartbeats 3200000 in
theorem w_shortAt_any (s : ByteArray) (k : Nat) (w : World) (hk : k < s.size) (hs : s.size ≤ 4611686018427387904) :
    Calls Tryz.prog 173 #[.string s, .int .i64 (k : Int)] w fun e w' => RuneB w w' e fun r b => 0 ≤ r ∧ r ≤ 255 := by
  have hi0 : (k : Int) < (s.size : Int) := by omega
  by_cases h92 : s[k] = 92
  · by_cases hend : k + 1 = s.size
    · have hne : ((k : Int) + 1 == (s.size : Int)) = true := by rw [beq_iff_eq]; omega
      clear hend
      go_enter Tryz.func173, Tryz.ntmps173
      go_wp2_with fail
      go_ret2
      exact ⟨_, _, rfl, by omega, Below.refl _ _⟩
    · have hk1 : k + 1 < s.size := by omega
      have hd : s.data.toList.drop k = 92 :: s[k + 1] :: s.data.toList.drop (k + 2) := by
        have l0 : k < s.data.toList.length := by rw [Array.length_toList]; exact hk
        have l1 : k + 1 < s.data.toList.length := by rw [Array.length_toList]; exact hk1
        rw [List.drop_eq_getElem_cons l0, List.drop_eq_getElem_cons l1]
        have e0 : s.data.toList[k]'l0 = s[k] := rfl
        have e1 : s.data.toList[k + 1]'l1 = s[k + 1] := rfl
        rw [e0, e1, h92]
      obtain ⟨c, hc⟩ : ∃ c, c = s[k + 1] := ⟨_, rfl⟩
      rw [← hc] at hd
      have fin : ∀ z : Int, 0 ≤ z → z ≤ 255 → (Calls Tryz.prog 173 #[.string s, .int .i64 (k : Int)] w fun e w' => e = .returned (.tuple #[.int .i32 z, .bool true]) ∧ w' = w) → Calls Tryz.prog 173 #[.string s, .int .i64 (k : Int)] w fun e w' => RuneB w w' e fun r b => 0 ≤ r ∧ r ≤ 255 := by
        intro z h0 h1 h
        refine h.mono ?_
        rintro e w1 ⟨rfl, hw⟩
        obtain rfl := hw.symm
        exact ⟨z, true, rfl, ⟨h0, h1⟩, Below.refl _ _⟩
      by_cases a1 : c = 34
      · rw [a1] at hd; exact fin 34 (by omega) (by omega) (s_34 s k _ w hd hs)
      by_cases a2 : c = 92
      · rw [a2] at hd; exact fin 92 (by omega) (by omega) (s_92 s k _ w hd hs)
      by_cases a3 : c = 47
      · rw [a3] at hd; exact fin 47 (by omega) (by omega) (s_47 s k _ w hd hs)
      by_cases a4 : c = 98
      · rw [a4] at hd; exact fin 8 (by omega) (by omega) (s_8 s k _ w hd hs)
      by_cases a5 : c = 102
      · rw [a5] at hd; exact fin 12 (by omega) (by omega) (s_12 s k _ w hd hs)
      by_cases a6 : c = 110
      · rw [a6] at hd; exact fin 10 (by omega) (by omega) (s_10 s k _ w hd hs)
      by_cases a7 : c = 114
      · rw [a7] at hd; exact fin 13 (by omega) (by omega) (s_13 s k _ w hd hs)
      by_cases a8 : c = 116
      · rw [a8] at hd; exact fin 9 (by omega) (by omega) (s_9 s k _ w hd hs)
      have hno := sign_none c ⟨a1, a2, a3, a4, a5, a6, a7, a8⟩
      have HI := Hid.mk (fun u => Tryz.strings_IndexByte ⟨#[34, 92, 47, 98, 102, 110, 114, 116]⟩ ((c.toNat : Nat) : Int) u)
      rw [hno] at HI
      have g1 : s[k + 1] = c := hc.symm
      have hi1 : (k : Int) + 1 < (s.size : Int) := by omega
      have hne : ((k : Int) + 1 == (s.size : Int)) = false := by rw [beq_eq_false_iff_ne]; omega
      clear a1 a2 a3 a4 a5 a6 a7 a8 hno fin hd hend hc
      go_enter Tryz.func173, Tryz.ntmps173
      go_wp2_with fail
      refine (HI.out _).mono ?_
      rintro e w1 ⟨rfl, hw⟩
      obtain rfl := hw.symm
      go_wp2_with fail
      go_ret2
      exact ⟨_, _, rfl, by omega, Below.refl _ _⟩
  · have h92' : ((((s[k]).toNat : Nat) : Int) != 92) = true := by
      rw [bne_iff_ne]
      intro e
      apply h92
      apply UInt8.toNat_inj.1
      have : (92 : UInt8).toNat = 92 := rfl
      omega
    clear h92
    go_enter Tryz.func173, Tryz.ntmps173
    go_wp2_with fail
    go_ret2
    exact ⟨_, _, rfl, by omega, Below.refl _ _⟩

/-- the library's error stands where it is laid -/
def ErrIn (w : World) : Prop := ∃ ev, w.cell? ⟨2, 0, none⟩ = some ev ∧ (ev = .nilIface ∨ ∃ te pe, ev = .iface te pe)
theorem ErrIn.keep {w w' : World} (h : ErrIn w) (hb : Below w.heap.size w w') : ErrIn w' := by
  obtain ⟨ev, h1, h2⟩ := h
  refine ⟨ev, (hb.cell (p := ⟨2, 0, none⟩) ?_).trans h1, h2⟩
  show 2 < w.heap.size
  rcases Nat.lt_or_ge 2 w.heap.size with h | h
  · exact h
  · simp [World.cell?, Array.getElem?_eq_none h] at h1

set_option maxRecDepth 100000 in
set_option maxHeartbeats 800000 in
theorem w_parse16_bad (t : ByteArray) (w : World) (ht : t.size = 4) (hh : t.data.toList.all isHex = false) (hE : ErrIn w) :
    Calls Tryz.prog 191 #[.string t, .int .i64 16, .int .i64 16] w fun e w' => ∃ T v, e = .returned (.tuple #[.int .u64 0, .iface T v]) ∧ Below w.heap.size w w' := by
  have HC := Hid.mk (w_iparse16_bad t w ht hh)
  have HE := Hid.mk hE
  have hts : t.size ≤ 281474976710656 := by omega
  clear ht hh hE
  go_enter Tryz.func191, Tryz.ntmps191
  go_wp2_with fail
  refine HC.out.mono ?_
  rintro e w1 ⟨rfl, hb1⟩
  have HB := Hid.mk hb1
  obtain ⟨ev, hv, hev⟩ := HE.out.keep hb1
  have HT := Hid.mk (Tryz.strconv_toError_syntax ⟨#[80, 97, 114, 115, 101, 85, 105, 110, 116]⟩ t 16 16 ev w1 hts hv hev)
  clear hb1 HC hv hev HE
  go_wp2_with fail
  refine HT.out.mono ?_
  rintro e w2 ⟨N, rfl, _, _, hb2⟩
  have HB2 := Hid.mk (below_more HB.out hb2)
  clear hb2 HT
  go_wp2_with fail
  go_ret2
  exact ⟨_, _, rfl, HB2.out⟩
end Go.Proofs.YtdmkfdaddacdhaaGreatDoor
namespace Go.Proofs.YtdmkfdaddacdhaaGreatDoor
open Go.RowKit
set_option linter.unusedVariables false
set_option linter.unusedSimpArgs false

theorem w_numberAt_good (s : ByteArray) (k : Nat) (ds post : List UInt8) (w : World) (hd : s.data.toList.drop k = 92 :: 117 :: (ds ++ post)) (hl : ds.length = 4) (hh : ds.all isHex = true) (hk : k ≤ s.size) (hs : s.size ≤ 9223372036854775807) :
    Calls Tryz.prog 174 #[.string s, .int .i64 (k : Int)] w fun e w' => RuneB w w' e fun r b => 0 ≤ r ∧ r ≤ 65535 ∧ (b = true → k + 6 ≤ s.size) := by
  have hlt : (s.data.toList.take k).length = k := by
    rw [List.length_take, Array.length_toList]
    have e2 : s.data.size = s.size := rfl
    omega
  have hN : NumAt s k ds := ⟨hl, hh, s.data.toList.take k, post, by rw [List.append_assoc]; show _ = _ ++ (92 :: 117 :: (ds ++ post)); rw [← hd, List.take_append_drop], hlt⟩
  have h6 := hN.lt
  have hn : hexN ds < 65536 := hexN_lt ds hh 4 (by rw [hl]; exact Nat.le_refl _)
  refine (w_numberAt s k ds w hN hs).mono ?_
  rintro e w1 ⟨rfl, hb⟩
  exact ⟨_, _, rfl, ⟨by omega, by omega, fun _ => h6⟩, hb⟩

set_option maxRecDepth 100000 in
set_option maxHeartbeats 3200000 in
theorem w_numberAt_any (s : ByteArray) (k : Nat) (w : World) (hk : k ≤ s.size) (hs : s.size ≤ 4611686018427387904) (hE : ErrIn w) :
    Calls Tryz.prog 174 #[.string s, .int .i64 (k : Int)] w fun e w' => RuneB w w' e fun r b => 0 ≤ r ∧ r ≤ 65535 ∧ (b = true → k + 6 ≤ s.size) := by
  have hk1 : (k : Int) ≤ (s.size : Int) := by omega
  obtain ⟨t, ht⟩ : ∃ t, t = s.extract k s.size := ⟨_, rfl⟩
  have htl : t.data.toList = s.data.toList.drop k := by rw [ht, extract_drop]
  have hcut := fun u => Tryz.strings_CutPrefix t ⟨#[92, 117]⟩ u
  cases hp : Lib.hasPrefix t.data.toList (ByteArray.mk #[92, 117]).data.toList with
  | false =>
    rw [hp] at hcut
    have HC := Hid.mk hcut
    clear hcut hp htl
    go_enter Tryz.func174, Tryz.ntmps174
    go_wp2_with fail
    rw [← ht]
    refine (HC.out _).mono ?_
    rintro e w1 ⟨rfl, hw⟩
    obtain rfl := hw.symm
    go_wp2_with fail
    go_ret2
    exact ⟨_, _, rfl, ⟨by omega, by omega, fun h => by cases h⟩, Below.refl _ _⟩
  | true =>
    have hpp : ([92, 117] : List UInt8).isPrefixOf t.data.toList = true := hp
    rw [List.isPrefixOf_iff_prefix] at hpp
    obtain ⟨rl, hrl⟩ := hpp
    have hrl' : t.data.toList = 92 :: 117 :: rl := hrl.symm
    have htrim : Lib.trimPrefix t.data.toList (ByteArray.mk #[92, 117]).data.toList = rl := by rw [hrl']; rfl
    rw [hp, htrim] at hcut
    have HC := Hid.mk hcut
    obtain ⟨r, hr⟩ : ∃ r : ByteArray, r = ⟨rl.toArray⟩ := ⟨_, rfl⟩
    rw [← hr] at HC
    have hrs : r.size = rl.length := by rw [hr]; simp [ByteArray.size]
    clear hcut htrim
    by_cases h4 : 4 ≤ rl.length
    · cases hh : (rl.take 4).all isHex with
      | true =>
        exact w_numberAt_good s k (rl.take 4) (rl.drop 4) w (by rw [List.take_append_drop, ← htl, hrl']) (by rw [List.length_take]; omega) hh hk (by omega)
      | false =>
        have hx : (r.extract 0 4).data.toList = rl.take 4 := by rw [extract_take, hr]
        have HP : Hid (∀ u, ErrIn u → Calls Tryz.prog 191 #[.string (r.extract 0 4), .int .i64 16, .int .i64 16] u fun e w' => ∃ T v, e = .returned (.tuple #[.int .u64 0, .iface T v]) ∧ Below u.heap.size u w') := by
          intro u hu
          exact w_parse16_bad (r.extract 0 4) u (by have := congrArg List.length hx; rw [List.length_take, Array.length_toList] at this; have e2 : (r.extract 0 4).data.size = (r.extract 0 4).size := rfl; omega) (by rw [hx]; exact hh) hu
        have hr4 : (4 : Int) ≤ (r.size : Int) := by omega
        have HE := Hid.mk hE
        clear hE hh hx hrs hr hrl hrl' h4 hp htl
        go_enter Tryz.func174, Tryz.ntmps174
        go_wp2_with fail
        rw [← ht]
        refine (HC.out _).mono ?_
        rintro e w1 ⟨rfl, hw⟩
        obtain rfl := hw.symm
        go_wp2_with fail
        refine (HP.out _ HE.out).mono ?_
        rintro e w2 ⟨T, v, rfl, hb2⟩
        have HB := Hid.mk hb2
        clear hb2 HP HC ht
        have hw32 : IntKind.i32.wrap 0 = 0 := by rw [IntKind.wrap_i32]; omega
        go_wp2_with fail
        go_region
        all_goals go_wp2
        all_goals go_ret2
        all_goals exact ⟨0, false, rfl, ⟨by omega, by omega, fun h => by cases h⟩, HB.out.drew⟩
    · have hr4 : (r.size : Int) < 4 := by omega
      clear hE hrs hr hrl hrl' h4 hp htl
      go_enter Tryz.func174, Tryz.ntmps174
      go_wp2_with fail
      rw [← ht]
      refine (HC.out _).mono ?_
      rintro e w1 ⟨rfl, hw⟩
      obtain rfl := hw.symm
      go_wp2_with fail
      go_ret2
      exact ⟨_, _, rfl, ⟨by omega, by omega, fun h => by cases h⟩, Below.refl _ _⟩

/-- what Escape may answer -/
def EscR (w w' : World) (e : Ending) : Prop := ∃ r p c, e = .returned (.tuple #[.int .i32 r, .int .i64 p, .int .i64 c]) ∧ (c = 0 ∨ c = 23 ∨ c = 24) ∧ 0 ≤ r ∧ r ≤ 2147483647 ∧ 0 ≤ p ∧ p ≤ 9223372036854775807 ∧ Below w.heap.size w w'

set_option maxRecDepth 100000 in
set_option maxHeartbeats 6400000 in
theorem w_Escape_any (s : ByteArray) (k : Nat) (w : World) (hk : k < s.size) (hs : s.size ≤ 4611686018427387904) (hE : ErrIn w) :
    Calls Tryz.prog 156 #[.string s, .int .i64 (k : Int)] w fun e w' => EscR w w' e := by
  have HP := Hid.mk (fun u => w_isPlace s k u hk)
  have HS := Hid.mk (fun u => w_shortAt_any s k u hk hs)
  have HN := Hid.mk (fun u (h : ErrIn u) => w_numberAt_any s k u (by omega) hs h)
  have HN2 : Hid (∀ u, k + 6 ≤ s.size → ErrIn u → Calls Tryz.prog 174 #[.string s, .int .i64 ((k : Int) + 6)] u fun e w' => RuneB u w' e fun r b => 0 ≤ r ∧ r ≤ 65535 ∧ (b = true → k + 6 + 6 ≤ s.size)) := by
    intro u h h2
    have := w_numberAt_any s (k + 6) u h hs h2
    rw [show ((k + 6 : Nat) : Int) = (k : Int) + 6 by omega] at this
    exact this
  have HE := Hid.mk hE
  have hk62 : (k : Int) ≤ 4611686018427387904 := by omega
  clear hE
  go_enter Tryz.func156, Tryz.ntmps156
  go_wp2_with fail
  refine (HP.out _).mono ?_
  rintro e w1 ⟨rfl, hw⟩
  obtain rfl := hw.symm
  go_wp2_with fail
  refine (HS.out _).mono ?_
  rintro e w2 ⟨r, b, rfl, ⟨hr0, hr1⟩, hb2⟩
  have HB2 := Hid.mk hb2
  have HE2 := Hid.mk (HE.out.keep hb2)
  clear hb2
  cases b with
  | true =>
    go_wp2_with fail
    refine bodyPost_ret (v := .tuple #[.int .i32 r, .int .i64 ((k : Int) + 2), .int .i64 0]) (by simp [results, Tryz.results156, go_sem]) rfl ?_
    exact ⟨_, _, _, rfl, by omega, by omega, by omega, by omega, by omega, HB2.out⟩
  | false =>
    go_wp2_with fail
    refine (HN.out _ HE2.out).mono ?_
    rintro e w3 ⟨n, b, rfl, ⟨hn0, hn1, hn6⟩, hb3⟩
    have HB3 := Hid.mk (below_more HB2.out hb3)
    have HE3 := Hid.mk (HE2.out.keep hb3)
    have HN6 := Hid.mk hn6
    clear hb3 hn6
    cases b with
    | false =>
      go_wp2_with fail
      refine bodyPost_ret (v := .tuple #[.int .i32 0, .int .i64 (k : Int), .int .i64 23]) (by simp [results, Tryz.results156, go_sem]) rfl ?_
      exact ⟨_, _, _, rfl, by omega, by omega, by omega, by omega, by omega, HB3.out⟩
    | true =>
      have hcs : n < 55296 ∨ (¬ n < 55296 ∧ 57344 ≤ n) ∨ (¬ n < 55296 ∧ ¬ 57344 ≤ n ∧ 56320 ≤ n) ∨ (¬ n < 55296 ∧ ¬ 57344 ≤ n ∧ ¬ 56320 ≤ n) := by omega
      have HN2' := Hid.mk (HN2.out w3 (HN6.out rfl) HE3.out)
      clear HN HN2 HS HP HE HE2 HE3
      rcases hcs with h1 | ⟨h1, h2⟩ | ⟨h1, h2, h3⟩ | ⟨h1, h2, h3⟩
      · go_wp2_with fail
        refine bodyPost_ret (v := .tuple #[.int .i32 n, .int .i64 ((k : Int) + 6), .int .i64 0]) (by simp [results, Tryz.results156, go_sem]) rfl ?_
        exact ⟨_, _, _, rfl, by omega, by omega, by omega, by omega, by omega, HB3.out⟩
      · go_wp2_with fail
        refine bodyPost_ret (v := .tuple #[.int .i32 n, .int .i64 ((k : Int) + 6), .int .i64 0]) (by simp [results, Tryz.results156, go_sem]) rfl ?_
        exact ⟨_, _, _, rfl, by omega, by omega, by omega, by omega, by omega, HB3.out⟩
      · go_wp2_with fail
        refine HN2'.out.mono ?_
        rintro e w4 ⟨l, b, rfl, ⟨hl0, hl1, _⟩, hb4⟩
        have HB4 := Hid.mk (below_more HB3.out hb4)
        clear hb4
        go_wp2_with fail
        refine bodyPost_ret (v := .tuple #[.int .i32 0, .int .i64 (k : Int), .int .i64 24]) (by simp [results, Tryz.results156, go_sem]) rfl ?_
        exact ⟨_, _, _, rfl, by omega, by omega, by omega, by omega, by omega, HB4.out⟩
      · go_wp2_with fail
        refine HN2'.out.mono ?_
        rintro e w4 ⟨l, b, rfl, ⟨hl0, hl1, _⟩, hb4⟩
        have HB4 := Hid.mk (below_more HB3.out hb4)
        clear hb4 HN2'
        cases b with
        | false =>
          go_wp2_with fail
          refine bodyPost_ret (v := .tuple #[.int .i32 0, .int .i64 (k : Int), .int .i64 24]) (by simp [results, Tryz.results156, go_sem]) rfl ?_
          exact ⟨_, _, _, rfl, by omega, by omega, by omega, by omega, by omega, HB4.out⟩
        | true =>
          have hls : l < 56320 ∨ (¬ l < 56320 ∧ 57344 ≤ l) ∨ (¬ l < 56320 ∧ ¬ 57344 ≤ l) := by omega
          rcases hls with g1 | ⟨g1, g2⟩ | ⟨g1, g2⟩
          · go_wp2_with fail
            refine bodyPost_ret (v := .tuple #[.int .i32 0, .int .i64 (k : Int), .int .i64 24]) (by simp [results, Tryz.results156, go_sem]) rfl ?_
            exact ⟨_, _, _, rfl, by omega, by omega, by omega, by omega, by omega, HB4.out⟩
          · go_wp2_with fail
            refine bodyPost_ret (v := .tuple #[.int .i32 0, .int .i64 (k : Int), .int .i64 24]) (by simp [results, Tryz.results156, go_sem]) rfl ?_
            exact ⟨_, _, _, rfl, by omega, by omega, by omega, by omega, by omega, HB4.out⟩
          · go_wp2_with fail
            refine bodyPost_ret (v := .tuple #[.int .i32 (65536 + (n - 55296) * 1024 + (l - 56320)), .int .i64 ((k : Int) + 12), .int .i64 0]) (by simp [results, Tryz.results156, go_sem]) rfl ?_
            exact ⟨_, _, _, rfl, by omega, by omega, by omega, by omega, by omega, HB4.out⟩
end Go.Proofs.YtdmkfdaddacdhaaGreatDoor
