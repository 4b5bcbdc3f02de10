import Derived.Test.YtdehejadiofomaaDoorV19
import Derived.Test.YtdehejadiofomaaDoorV11
import Derived.Test.YtdehejadiofomaaDoorV90
namespace Go.Proofs.YtdehejadiofomaaDoor
open Go.RowKit
set_option linter.unusedVariables false
set_option linter.unusedSimpArgs false

set_option maxRecDepth 100000 in
set_option maxHeartbeats 1600000 in
theorem s_34 (s : ByteArray) (k : Nat) (post : List UInt8) (w : World) (hd : s.data.toList.drop k = 92 :: 34 :: post) (hs : s.size ≤ 4611686018427387904) :
    Calls Tryd.prog 63 #[.string s, .int .i64 (k : Int)] w fun e w' => e = .returned (.tuple #[.int .i32 34, .bool true]) ∧ w' = w := by
  have hlt : k + 2 ≤ s.size := by
    have := congrArg List.length hd
    rw [List.length_drop, Array.length_toList] at this
    have e2 : s.data.size = s.size := rfl
    simp only [List.length_cons] at this
    omega
  have hk0 : k < s.size := by omega
  have hk1 : k + 1 < s.size := by omega
  have g0 : s[k] = 92 := get_of hd hk0
  have g1 : s[k + 1] = 34 := get_of (drop_next hd) hk1
  have hi0 : (k : Int) < (s.size : Int) := by omega
  have hi1 : (k : Int) + 1 < (s.size : Int) := by omega
  have hne : ((k : Int) + 1 == (s.size : Int)) = false := by rw [beq_eq_false_iff_ne]; omega
  have HI := Hid.mk (fun u => Tryd.strings_IndexByte ⟨#[34, 92, 47, 98, 102, 110, 114, 116]⟩ 34 u)
  rw [show Lib.indexByte (ByteArray.mk #[34, 92, 47, 98, 102, 110, 114, 116]).data.toList (34 : Int).toNat.toUInt8 = 0 by decide] at HI
  clear hd
  go_enter Tryd.func63, Tryd.ntmps63
  go_wp2_with fail
  refine (HI.out _).mono ?_
  rintro e w1 ⟨rfl, hw⟩
  obtain rfl := hw.symm
  go_wp2_with fail
  go_ret2
  have hw : wrap32 34 = 34 := by first | decide | rfl | simp [wrap32]
  exact ⟨by show Ending.returned (.tuple #[.int .i32 (wrap32 34), .bool true]) = _; rw [hw], rfl⟩

set_option maxRecDepth 100000 in
set_option maxHeartbeats 1600000 in
theorem s_92 (s : ByteArray) (k : Nat) (post : List UInt8) (w : World) (hd : s.data.toList.drop k = 92 :: 92 :: post) (hs : s.size ≤ 4611686018427387904) :
    Calls Tryd.prog 63 #[.string s, .int .i64 (k : Int)] w fun e w' => e = .returned (.tuple #[.int .i32 92, .bool true]) ∧ w' = w := by
  have hlt : k + 2 ≤ s.size := by
    have := congrArg List.length hd
    rw [List.length_drop, Array.length_toList] at this
    have e2 : s.data.size = s.size := rfl
    simp only [List.length_cons] at this
    omega
  have hk0 : k < s.size := by omega
  have hk1 : k + 1 < s.size := by omega
  have g0 : s[k] = 92 := get_of hd hk0
  have g1 : s[k + 1] = 92 := get_of (drop_next hd) hk1
  have hi0 : (k : Int) < (s.size : Int) := by omega
  have hi1 : (k : Int) + 1 < (s.size : Int) := by omega
  have hne : ((k : Int) + 1 == (s.size : Int)) = false := by rw [beq_eq_false_iff_ne]; omega
  have HI := Hid.mk (fun u => Tryd.strings_IndexByte ⟨#[34, 92, 47, 98, 102, 110, 114, 116]⟩ 92 u)
  rw [show Lib.indexByte (ByteArray.mk #[34, 92, 47, 98, 102, 110, 114, 116]).data.toList (92 : Int).toNat.toUInt8 = 1 by decide] at HI
  clear hd
  go_enter Tryd.func63, Tryd.ntmps63
  go_wp2_with fail
  refine (HI.out _).mono ?_
  rintro e w1 ⟨rfl, hw⟩
  obtain rfl := hw.symm
  go_wp2_with fail
  go_ret2
  have hw : wrap32 92 = 92 := by first | decide | rfl | simp [wrap32]
  exact ⟨by show Ending.returned (.tuple #[.int .i32 (wrap32 92), .bool true]) = _; rw [hw], rfl⟩

set_option maxRecDepth 100000 in
set_option maxHeartbeats 1600000 in
theorem s_8 (s : ByteArray) (k : Nat) (post : List UInt8) (w : World) (hd : s.data.toList.drop k = 92 :: 98 :: post) (hs : s.size ≤ 4611686018427387904) :
    Calls Tryd.prog 63 #[.string s, .int .i64 (k : Int)] w fun e w' => e = .returned (.tuple #[.int .i32 8, .bool true]) ∧ w' = w := by
  have hlt : k + 2 ≤ s.size := by
    have := congrArg List.length hd
    rw [List.length_drop, Array.length_toList] at this
    have e2 : s.data.size = s.size := rfl
    simp only [List.length_cons] at this
    omega
  have hk0 : k < s.size := by omega
  have hk1 : k + 1 < s.size := by omega
  have g0 : s[k] = 92 := get_of hd hk0
  have g1 : s[k + 1] = 98 := get_of (drop_next hd) hk1
  have hi0 : (k : Int) < (s.size : Int) := by omega
  have hi1 : (k : Int) + 1 < (s.size : Int) := by omega
  have hne : ((k : Int) + 1 == (s.size : Int)) = false := by rw [beq_eq_false_iff_ne]; omega
  have HI := Hid.mk (fun u => Tryd.strings_IndexByte ⟨#[34, 92, 47, 98, 102, 110, 114, 116]⟩ 98 u)
  rw [show Lib.indexByte (ByteArray.mk #[34, 92, 47, 98, 102, 110, 114, 116]).data.toList (98 : Int).toNat.toUInt8 = 3 by decide] at HI
  clear hd
  go_enter Tryd.func63, Tryd.ntmps63
  go_wp2_with fail
  refine (HI.out _).mono ?_
  rintro e w1 ⟨rfl, hw⟩
  obtain rfl := hw.symm
  go_wp2_with fail
  go_ret2
  have hw : wrap32 8 = 8 := by first | decide | rfl | simp [wrap32]
  exact ⟨by show Ending.returned (.tuple #[.int .i32 (wrap32 8), .bool true]) = _; rw [hw], rfl⟩

set_option maxRecDepth 100000 in
set_option maxHeartbeats 1600000 in
theorem s_12 (s : ByteArray) (k : Nat) (post : List UInt8) (w : World) (hd : s.data.toList.drop k = 92 :: 102 :: post) (hs : s.size ≤ 4611686018427387904) :
    Calls Tryd.prog 63 #[.string s, .int .i64 (k : Int)] w fun e w' => e = .returned (.tuple #[.int .i32 12, .bool true]) ∧ w' = w := by
  have hlt : k + 2 ≤ s.size := by
    have := congrArg List.length hd
    rw [List.length_drop, Array.length_toList] at this
    have e2 : s.data.size = s.size := rfl
    simp only [List.length_cons] at this
    omega
  have hk0 : k < s.size := by omega
  have hk1 : k + 1 < s.size := by omega
  have g0 : s[k] = 92 := get_of hd hk0
  have g1 : s[k + 1] = 102 := get_of (drop_next hd) hk1
  have hi0 : (k : Int) < (s.size : Int) := by omega
  have hi1 : (k : Int) + 1 < (s.size : Int) := by omega
  have hne : ((k : Int) + 1 == (s.size : Int)) = false := by rw [beq_eq_false_iff_ne]; omega
  have HI := Hid.mk (fun u => Tryd.strings_IndexByte ⟨#[34, 92, 47, 98, 102, 110, 114, 116]⟩ 102 u)
  rw [show Lib.indexByte (ByteArray.mk #[34, 92, 47, 98, 102, 110, 114, 116]).data.toList (102 : Int).toNat.toUInt8 = 4 by decide] at HI
  clear hd
  go_enter Tryd.func63, Tryd.ntmps63
  go_wp2_with fail
  refine (HI.out _).mono ?_
  rintro e w1 ⟨rfl, hw⟩
  obtain rfl := hw.symm
  go_wp2_with fail
  go_ret2
  have hw : wrap32 12 = 12 := by first | decide | rfl | simp [wrap32]
  exact ⟨by show Ending.returned (.tuple #[.int .i32 (wrap32 12), .bool true]) = _; rw [hw], rfl⟩

set_option maxRecDepth 100000 in
set_option maxHeartbeats 1600000 in
theorem s_10 (s : ByteArray) (k : Nat) (post : List UInt8) (w : World) (hd : s.data.toList.drop k = 92 :: 110 :: post) (hs : s.size ≤ 4611686018427387904) :
    Calls Tryd.prog 63 #[.string s, .int .i64 (k : Int)] w fun e w' => e = .returned (.tuple #[.int .i32 10, .bool true]) ∧ w' = w := by
  have hlt : k + 2 ≤ s.size := by
    have := congrArg List.length hd
    rw [List.length_drop, Array.length_toList] at this
    have e2 : s.data.size = s.size := rfl
    simp only [List.length_cons] at this
    omega
  have hk0 : k < s.size := by omega
  have hk1 : k + 1 < s.size := by omega
  have g0 : s[k] = 92 := get_of hd hk0
  have g1 : s[k + 1] = 110 := get_of (drop_next hd) hk1
  have hi0 : (k : Int) < (s.size : Int) := by omega
  have hi1 : (k : Int) + 1 < (s.size : Int) := by omega
  have hne : ((k : Int) + 1 == (s.size : Int)) = false := by rw [beq_eq_false_iff_ne]; omega
  have HI := Hid.mk (fun u => Tryd.strings_IndexByte ⟨#[34, 92, 47, 98, 102, 110, 114, 116]⟩ 110 u)
  rw [show Lib.indexByte (ByteArray.mk #[34, 92, 47, 98, 102, 110, 114, 116]).data.toList (110 : Int).toNat.toUInt8 = 5 by decide] at HI
  clear hd
  go_enter Tryd.func63, Tryd.ntmps63
  go_wp2_with fail
  refine (HI.out _).mono ?_
  rintro e w1 ⟨rfl, hw⟩
  obtain rfl := hw.symm
  go_wp2_with fail
  go_ret2
  have hw : wrap32 10 = 10 := by first | decide | rfl | simp [wrap32]
  exact ⟨by show Ending.returned (.tuple #[.int .i32 (wrap32 10), .bool true]) = _; rw [hw], rfl⟩

set_option maxRecDepth 100000 in
set_option maxHeartbeats 1600000 in
theorem s_13 (s : ByteArray) (k : Nat) (post : List UInt8) (w : World) (hd : s.data.toList.drop k = 92 :: 114 :: post) (hs : s.size ≤ 4611686018427387904) :
    Calls Tryd.prog 63 #[.string s, .int .i64 (k : Int)] w fun e w' => e = .returned (.tuple #[.int .i32 13, .bool true]) ∧ w' = w := by
  have hlt : k + 2 ≤ s.size := by
    have := congrArg List.length hd
    rw [List.length_drop, Array.length_toList] at this
    have e2 : s.data.size = s.size := rfl
    simp only [List.length_cons] at this
    omega
  have hk0 : k < s.size := by omega
  have hk1 : k + 1 < s.size := by omega
  have g0 : s[k] = 92 := get_of hd hk0
  have g1 : s[k + 1] = 114 := get_of (drop_next hd) hk1
  have hi0 : (k : Int) < (s.size : Int) := by omega
  have hi1 : (k : Int) + 1 < (s.size : Int) := by omega
  have hne : ((k : Int) + 1 == (s.size : Int)) = false := by rw [beq_eq_false_iff_ne]; omega
  have HI := Hid.mk (fun u => Tryd.strings_IndexByte ⟨#[34, 92, 47, 98, 102, 110, 114, 116]⟩ 114 u)
  rw [show Lib.indexByte (ByteArray.mk #[34, 92, 47, 98, 102, 110, 114, 116]).data.toList (114 : Int).toNat.toUInt8 = 6 by decide] at HI
  clear hd
  go_enter Tryd.func63, Tryd.ntmps63
  go_wp2_with fail
  refine (HI.out _).mono ?_
  rintro e w1 ⟨rfl, hw⟩
  obtain rfl := hw.symm
  go_wp2_with fail
  go_ret2
  have hw : wrap32 13 = 13 := by first | decide | rfl | simp [wrap32]
  exact ⟨by show Ending.returned (.tuple #[.int .i32 (wrap32 13), .bool true]) = _; rw [hw], rfl⟩

set_option maxRecDepth 100000 in
set_option maxHeartbeats 1600000 in
theorem s_9 (s : ByteArray) (k : Nat) (post : List UInt8) (w : World) (hd : s.data.toList.drop k = 92 :: 116 :: post) (hs : s.size ≤ 4611686018427387904) :
    Calls Tryd.prog 63 #[.string s, .int .i64 (k : Int)] w fun e w' => e = .returned (.tuple #[.int .i32 9, .bool true]) ∧ w' = w := by
  have hlt : k + 2 ≤ s.size := by
    have := congrArg List.length hd
    rw [List.length_drop, Array.length_toList] at this
    have e2 : s.data.size = s.size := rfl
    simp only [List.length_cons] at this
    omega
  have hk0 : k < s.size := by omega
  have hk1 : k + 1 < s.size := by omega
  have g0 : s[k] = 92 := get_of hd hk0
  have g1 : s[k + 1] = 116 := get_of (drop_next hd) hk1
  have hi0 : (k : Int) < (s.size : Int) := by omega
  have hi1 : (k : Int) + 1 < (s.size : Int) := by omega
  have hne : ((k : Int) + 1 == (s.size : Int)) = false := by rw [beq_eq_false_iff_ne]; omega
  have HI := Hid.mk (fun u => Tryd.strings_IndexByte ⟨#[34, 92, 47, 98, 102, 110, 114, 116]⟩ 116 u)
  rw [show Lib.indexByte (ByteArray.mk #[34, 92, 47, 98, 102, 110, 114, 116]).data.toList (116 : Int).toNat.toUInt8 = 7 by decide] at HI
  clear hd
  go_enter Tryd.func63, Tryd.ntmps63
  go_wp2_with fail
  refine (HI.out _).mono ?_
  rintro e w1 ⟨rfl, hw⟩
  obtain rfl := hw.symm
  go_wp2_with fail
  go_ret2
  have hw : wrap32 9 = 9 := by first | decide | rfl | simp [wrap32]
  exact ⟨by show Ending.returned (.tuple #[.int .i32 (wrap32 9), .bool true]) = _; rw [hw], rfl⟩

theorem w_shortAt_s (s : ByteArray) (k : Nat) (z : Nat) (c : UInt8) (post : List UInt8) (w : World) (hz : sgn z = some c) (hd : s.data.toList.drop k = 92 :: c :: post) (hs : s.size ≤ 4611686018427387904) :
    Calls Tryd.prog 63 #[.string s, .int .i64 (k : Int)] w fun e w' => e = .returned (.tuple #[.int .i32 (z : Int), .bool true]) ∧ w' = w := by
  unfold sgn at hz
  by_cases h34 : z = 34
  · subst h34; cases hz; exact s_34 s k post w hd hs
  rw [if_neg h34] at hz
  by_cases h92 : z = 92
  · subst h92; cases hz; exact s_92 s k post w hd hs
  rw [if_neg h92] at hz
  by_cases h8 : z = 8
  · subst h8; cases hz; exact s_8 s k post w hd hs
  rw [if_neg h8] at hz
  by_cases h12 : z = 12
  · subst h12; cases hz; exact s_12 s k post w hd hs
  rw [if_neg h12] at hz
  by_cases h10 : z = 10
  · subst h10; cases hz; exact s_10 s k post w hd hs
  rw [if_neg h10] at hz
  by_cases h13 : z = 13
  · subst h13; cases hz; exact s_13 s k post w hd hs
  rw [if_neg h13] at hz
  by_cases h9 : z = 9
  · subst h9; cases hz; exact s_9 s k post w hd hs
  rw [if_neg h9] at hz
  cases hz

set_option maxRecDepth 100000 in
set_option maxHeartbeats 1600000 in
theorem w_Escape_short (s : ByteArray) (k : Nat) (z : Nat) (c : UInt8) (post : List UInt8) (w : World) (hz : sgn z = some c) (hd : s.data.toList.drop k = 92 :: c :: post) (hs : s.size ≤ 4611686018427387904) :
    Calls Tryd.prog 56 #[.string s, .int .i64 (k : Int)] w fun e w' => e = .returned (.tuple #[.int .i32 (z : Int), .int .i64 ((k : Int) + 2), .int .i64 0]) ∧ w' = w := by
  have hlt : k < s.size := by
    have := congrArg List.length hd
    rw [List.length_drop, Array.length_toList] at this
    have e2 : s.data.size = s.size := rfl
    simp only [List.length_cons] at this
    omega
  have HP := Hid.mk (fun u => w_isPlace s k u hlt)
  have HS := Hid.mk (fun u => w_shortAt_s s k z c post u hz hd hs)
  clear hd hz
  go_enter Tryd.func56, Tryd.ntmps56
  go_wp2_with fail
  refine (HP.out _).mono ?_
  rintro e w1 ⟨rfl, hw⟩
  obtain rfl := hw.symm
  go_wp2_with fail
  refine (HS.out _).mono ?_
  rintro e w1 ⟨rfl, hw⟩
  obtain rfl := hw.symm
  go_wp2_with fail
  refine bodyPost_ret (v := .tuple #[.int .i32 (z : Int), .int .i64 ((k : Int) + 2), .int .i64 0]) (by simp [results, Tryd.results56, go_sem]) rfl ?_
  exact ⟨rfl, rfl⟩
end Go.Proofs.YtdehejadiofomaaDoor
