import Derived.Test.YtcadknhedfnaoaaGreatDoorM2
import Derived.Test.YtcadknhedfnaoaaGreatDoorM7
import Derived.Test.YtcadknhedfnaoaaGreatDoorM5
namespace Go.Proofs.YtcadknhedfnaoaaGreatDoor
open Go.RowKit
set_option linter.unusedVariables false
set_option linter.unusedSimpArgs false

set_option maxRecDepth 100000 in
theorem nonhex (c : UInt8) (h : isHex c = false) : (c.toNat = 95 ∧ (c.toNat ||| 32) = 127) ∨ (c.toNat < 48 ∧ (c.toNat ||| 32) < 97) ∨ (58 ≤ c.toNat ∧ c.toNat ≠ 95 ∧ (c.toNat ||| 32) < 97) ∨ (58 ≤ c.toNat ∧ c.toNat ≠ 95 ∧ 122 < (c.toNat ||| 32)) ∨ (58 ≤ c.toNat ∧ c.toNat ≠ 95 ∧ 103 ≤ (c.toNat ||| 32) ∧ (c.toNat ||| 32) ≤ 122) := by
  unfold isHex at h
  simp only [Bool.or_eq_false_iff, Bool.and_eq_false_iff, decide_eq_false_iff_not] at h
  have h95 : c.toNat = 95 → (c.toNat ||| 32) = 127 := by intro e; rw [e]; decide
  have h48 : ∀ m : Fin 48, (m.val ||| 32) < 97 := by decide
  by_cases a : c.toNat < 48
  · right; left; exact ⟨a, h48 ⟨c.toNat, a⟩⟩
  · by_cases e : c.toNat = 95
    · left; exact ⟨e, h95 e⟩
    · omega
end Go.Proofs.YtcadknhedfnaoaaGreatDoor
namespace Go.Proofs.YtcadknhedfnaoaaGreatDoor
open Go.RowKit
set_option linter.unusedVariables false
set_option linter.unusedSimpArgs false

theorem below_grown {w w1 : World} (hb : Below w.heap.size w w1) (r : Option Nat) : w.grownBy w1 r := ⟨hb.os, hb.tape, hb.output, hb.size, fun i hi _ => hb.block i hi⟩
theorem own_below {w w1 : World} {B e size n : Nat} {v : Value} {xs : List Value} (h : w.ownsRow B e size v n xs) (hb : Below w.heap.size w w1) : w1.ownsRow B e size v n xs := by
  refine ⟨h.1, ?_⟩
  rcases h.2 with h0 | ⟨g, cap, cur, hv, hb', hg, rest⟩
  · exact .inl h0
  · refine .inr ⟨g, cap, cur, hv, hb', ?_, rest⟩
    rw [hb.block g (Array.getElem?_eq_some_iff.1 hg).1]
    exact hg

/-- the sign of a short escape -/
def sgn (n : Nat) : Option UInt8 := if n = 34 then some 34 else if n = 92 then some 92 else if n = 8 then some 98 else if n = 12 then some 102 else if n = 10 then some 110 else if n = 13 then some 114 else if n = 9 then some 116 else none
/-- a rune as Quote writes it -/
def qd (n : Nat) : List UInt8 := match sgn n with
  | some c => [92, c]
  | none => if n < 32 ∨ n = 127 then unit n else enc n
theorem qd_len (n : Nat) : 1 ≤ (qd n).length ∧ (qd n).length ≤ 6 := by
  unfold qd
  split
  · simp
  · split
    · have e : (unit n).length = 6 := rfl
      omega
    · have := enc_len n; omega

theorem encodeRune_enc (n : Nat) (h : isR n) : Lib.encodeRune (n : Int) = enc n := by
  unfold isR at h
  unfold Lib.encodeRune enc
  by_cases h1 : n < 0x80
  · rw [Lib.encodeRuneZ_one (by omega) (by omega), if_pos h1]; simp
  · rw [if_neg h1]
    by_cases h2 : n < 0x800
    · rw [Lib.encodeRuneZ_two (by omega) (by omega), if_pos h2]
      simp only [List.map_cons, List.map_nil]
      rw [show (192 + (n : Int) / 64).toNat = 0xC0 + n / 64 by omega, show (128 + (n : Int) % 64).toNat = 0x80 + n % 64 by omega]
    · rw [if_neg h2]
      unfold Lib.encodeRuneZ
      rw [if_neg (by omega), if_neg (by omega)]
      by_cases h3 : n < 0x10000
      · rw [if_pos (by omega), if_pos h3]
        simp only [List.map_cons, List.map_nil]
        rw [show (224 + (n : Int) / 4096).toNat = 0xE0 + n / 4096 by omega, show (128 + (n : Int) / 64 % 64).toNat = 0x80 + n / 64 % 64 by omega, show (128 + (n : Int) % 64).toNat = 0x80 + n % 64 by omega]
      · rw [if_neg (by omega), if_pos (by omega), if_neg h3]
        simp only [List.map_cons, List.map_nil]
        rw [show (240 + (n : Int) / 262144).toNat = 0xF0 + n / 262144 by omega, show (128 + (n : Int) / 4096 % 64).toNat = 0x80 + n / 4096 % 64 by omega, show (128 + (n : Int) / 64 % 64).toNat = 0x80 + n / 64 % 64 by omega, show (128 + (n : Int) % 64).toNat = 0x80 + n % 64 by omega]

set_option maxRecDepth 100000 in
set_option maxHeartbeats 1600000 in
theorem q_34 (B n : Nat) (v : Value) (l : List UInt8) (w : World) (hown : w.ownsRow B 5 1 v n (Lib.byteCells l)) (hBw : B ≤ w.heap.size) (hn : n ≤ 1099511627776) :
    Calls Tryz.prog 51 #[v, .int .i32 34] w fun e w' => AppR B v w w' e (n + 2) (l ++ [92, 34]) := by
  obtain ⟨i0, hi0, hz0, hz1, hz2⟩ := info_parts Tryz.infoB
  obtain ⟨ao, cap, rfl⟩ := own_shape hown
  have HI := Hid.mk (fun u => Tryz.strings_IndexRune_ascii ⟨#[34, 92, 47, 8, 12, 10, 13, 9]⟩ 34 u (by decide) (by decide))
  rw [show Lib.indexByte (ByteArray.mk #[34, 92, 47, 8, 12, 10, 13, 9]).data.toList (34 : Int).toNat.toUInt8 = 0 by decide] at HI
  go_enter Tryz.func51, Tryz.ntmps51
  go_wp2_with fail
  refine (HI.out _).mono ?_
  rintro e w1 ⟨rfl, hw⟩
  obtain rfl := hw.symm
  go_wp2_with (at_builtin; refine wpList_append_own _ rfl _ _ 39 rfl B 5 i0 (.int .u8 0) 1 1 Tryz.underlying39 hi0 hz0 hz1 hz2 rfl (by decide) _ _ _ rfl (hown.alloc _) ⟨w.heap.size, 0, none⟩ 2 2 [.int .u8 92, .int .u8 34] rfl rfl (by intro j u hj; match j, hj with | 0, hj => simp at hj; subst hj; simp [Addr.add] | 1, hj => simp at hj; subst hj; simp [Addr.add]; rfl) (by intro u hu; simp at hu; rcases hu with rfl | rfl <;> rfl) (by unfold maxLen; omega) (by omega) (by simp; omega) ?_)
  intro v1 w1 hown1 hgrow1 hnn
  obtain ⟨so, sc, hv⟩ := own_shape hown1
  have HB := Hid.mk (below_app hown hBw (Below.refl _ _) hgrow1)
  have HG := Hid.mk (grown_after hgrow1)
  have HO : Hid (w1.ownsRow B 5 1 v1 (n + 2) (Lib.byteCells (l ++ [92, 34]))) := by
    show World.ownsRow _ _ _ _ _ _ _
    rw [Lib.byteCells_append]
    exact hown1
  subst hv
  clear hown1 hgrow1 hnn hown
  go_wp2_with fail
  go_ret
  exact ⟨_, _, rfl, HO.out, HB.out, HG.out⟩


set_option maxRecDepth 100000 in
set_option maxHeartbeats 1600000 in
theorem q_92 (B n : Nat) (v : Value) (l : List UInt8) (w : World) (hown : w.ownsRow B 5 1 v n (Lib.byteCells l)) (hBw : B ≤ w.heap.size) (hn : n ≤ 1099511627776) :
    Calls Tryz.prog 51 #[v, .int .i32 92] w fun e w' => AppR B v w w' e (n + 2) (l ++ [92, 92]) := by
  obtain ⟨i0, hi0, hz0, hz1, hz2⟩ := info_parts Tryz.infoB
  obtain ⟨ao, cap, rfl⟩ := own_shape hown
  have HI := Hid.mk (fun u => Tryz.strings_IndexRune_ascii ⟨#[34, 92, 47, 8, 12, 10, 13, 9]⟩ 92 u (by decide) (by decide))
  rw [show Lib.indexByte (ByteArray.mk #[34, 92, 47, 8, 12, 10, 13, 9]).data.toList (92 : Int).toNat.toUInt8 = 1 by decide] at HI
  go_enter Tryz.func51, Tryz.ntmps51
  go_wp2_with fail
  refine (HI.out _).mono ?_
  rintro e w1 ⟨rfl, hw⟩
  obtain rfl := hw.symm
  go_wp2_with (at_builtin; refine wpList_append_own _ rfl _ _ 39 rfl B 5 i0 (.int .u8 0) 1 1 Tryz.underlying39 hi0 hz0 hz1 hz2 rfl (by decide) _ _ _ rfl (hown.alloc _) ⟨w.heap.size, 0, none⟩ 2 2 [.int .u8 92, .int .u8 92] rfl rfl (by intro j u hj; match j, hj with | 0, hj => simp at hj; subst hj; simp [Addr.add] | 1, hj => simp at hj; subst hj; simp [Addr.add]; rfl) (by intro u hu; simp at hu; rcases hu with rfl | rfl <;> rfl) (by unfold maxLen; omega) (by omega) (by simp; omega) ?_)
  intro v1 w1 hown1 hgrow1 hnn
  obtain ⟨so, sc, hv⟩ := own_shape hown1
  have HB := Hid.mk (below_app hown hBw (Below.refl _ _) hgrow1)
  have HG := Hid.mk (grown_after hgrow1)
  have HO : Hid (w1.ownsRow B 5 1 v1 (n + 2) (Lib.byteCells (l ++ [92, 92]))) := by
    show World.ownsRow _ _ _ _ _ _ _
    rw [Lib.byteCells_append]
    exact hown1
  subst hv
  clear hown1 hgrow1 hnn hown
  go_wp2_with fail
  go_ret
  exact ⟨_, _, rfl, HO.out, HB.out, HG.out⟩


set_option maxRecDepth 100000 in
set_option maxHeartbeats 1600000 in
theorem q_8 (B n : Nat) (v : Value) (l : List UInt8) (w : World) (hown : w.ownsRow B 5 1 v n (Lib.byteCells l)) (hBw : B ≤ w.heap.size) (hn : n ≤ 1099511627776) :
    Calls Tryz.prog 51 #[v, .int .i32 8] w fun e w' => AppR B v w w' e (n + 2) (l ++ [92, 98]) := by
  obtain ⟨i0, hi0, hz0, hz1, hz2⟩ := info_parts Tryz.infoB
  obtain ⟨ao, cap, rfl⟩ := own_shape hown
  have HI := Hid.mk (fun u => Tryz.strings_IndexRune_ascii ⟨#[34, 92, 47, 8, 12, 10, 13, 9]⟩ 8 u (by decide) (by decide))
  rw [show Lib.indexByte (ByteArray.mk #[34, 92, 47, 8, 12, 10, 13, 9]).data.toList (8 : Int).toNat.toUInt8 = 3 by decide] at HI
  go_enter Tryz.func51, Tryz.ntmps51
  go_wp2_with fail
  refine (HI.out _).mono ?_
  rintro e w1 ⟨rfl, hw⟩
  obtain rfl := hw.symm
  go_wp2_with (at_builtin; refine wpList_append_own _ rfl _ _ 39 rfl B 5 i0 (.int .u8 0) 1 1 Tryz.underlying39 hi0 hz0 hz1 hz2 rfl (by decide) _ _ _ rfl (hown.alloc _) ⟨w.heap.size, 0, none⟩ 2 2 [.int .u8 92, .int .u8 98] rfl rfl (by intro j u hj; match j, hj with | 0, hj => simp at hj; subst hj; simp [Addr.add] | 1, hj => simp at hj; subst hj; simp [Addr.add]; rfl) (by intro u hu; simp at hu; rcases hu with rfl | rfl <;> rfl) (by unfold maxLen; omega) (by omega) (by simp; omega) ?_)
  intro v1 w1 hown1 hgrow1 hnn
  obtain ⟨so, sc, hv⟩ := own_shape hown1
  have HB := Hid.mk (below_app hown hBw (Below.refl _ _) hgrow1)
  have HG := Hid.mk (grown_after hgrow1)
  have HO : Hid (w1.ownsRow B 5 1 v1 (n + 2) (Lib.byteCells (l ++ [92, 98]))) := by
    show World.ownsRow _ _ _ _ _ _ _
    rw [Lib.byteCells_append]
    exact hown1
  subst hv
  clear hown1 hgrow1 hnn hown
  go_wp2_with fail
  go_ret
  exact ⟨_, _, rfl, HO.out, HB.out, HG.out⟩


set_option maxRecDepth 100000 in
set_option maxHeartbeats 1600000 in
theorem q_12 (B n : Nat) (v : Value) (l : List UInt8) (w : World) (hown : w.ownsRow B 5 1 v n (Lib.byteCells l)) (hBw : B ≤ w.heap.size) (hn : n ≤ 1099511627776) :
    Calls Tryz.prog 51 #[v, .int .i32 12] w fun e w' => AppR B v w w' e (n + 2) (l ++ [92, 102]) := by
  obtain ⟨i0, hi0, hz0, hz1, hz2⟩ := info_parts Tryz.infoB
  obtain ⟨ao, cap, rfl⟩ := own_shape hown
  have HI := Hid.mk (fun u => Tryz.strings_IndexRune_ascii ⟨#[34, 92, 47, 8, 12, 10, 13, 9]⟩ 12 u (by decide) (by decide))
  rw [show Lib.indexByte (ByteArray.mk #[34, 92, 47, 8, 12, 10, 13, 9]).data.toList (12 : Int).toNat.toUInt8 = 4 by decide] at HI
  go_enter Tryz.func51, Tryz.ntmps51
  go_wp2_with fail
  refine (HI.out _).mono ?_
  rintro e w1 ⟨rfl, hw⟩
  obtain rfl := hw.symm
  go_wp2_with (at_builtin; refine wpList_append_own _ rfl _ _ 39 rfl B 5 i0 (.int .u8 0) 1 1 Tryz.underlying39 hi0 hz0 hz1 hz2 rfl (by decide) _ _ _ rfl (hown.alloc _) ⟨w.heap.size, 0, none⟩ 2 2 [.int .u8 92, .int .u8 102] rfl rfl (by intro j u hj; match j, hj with | 0, hj => simp at hj; subst hj; simp [Addr.add] | 1, hj => simp at hj; subst hj; simp [Addr.add]; rfl) (by intro u hu; simp at hu; rcases hu with rfl | rfl <;> rfl) (by unfold maxLen; omega) (by omega) (by simp; omega) ?_)
  intro v1 w1 hown1 hgrow1 hnn
  obtain ⟨so, sc, hv⟩ := own_shape hown1
  have HB := Hid.mk (below_app hown hBw (Below.refl _ _) hgrow1)
  have HG := Hid.mk (grown_after hgrow1)
  have HO : Hid (w1.ownsRow B 5 1 v1 (n + 2) (Lib.byteCells (l ++ [92, 102]))) := by
    show World.ownsRow _ _ _ _ _ _ _
    rw [Lib.byteCells_append]
    exact hown1
  subst hv
  clear hown1 hgrow1 hnn hown
  go_wp2_with fail
  go_ret
  exact ⟨_, _, rfl, HO.out, HB.out, HG.out⟩


set_option maxRecDepth 100000 in
set_option maxHeartbeats 1600000 in
theorem q_13 (B n : Nat) (v : Value) (l : List UInt8) (w : World) (hown : w.ownsRow B 5 1 v n (Lib.byteCells l)) (hBw : B ≤ w.heap.size) (hn : n ≤ 1099511627776) :
    Calls Tryz.prog 51 #[v, .int .i32 13] w fun e w' => AppR B v w w' e (n + 2) (l ++ [92, 114]) := by
  obtain ⟨i0, hi0, hz0, hz1, hz2⟩ := info_parts Tryz.infoB
  obtain ⟨ao, cap, rfl⟩ := own_shape hown
  have HI := Hid.mk (fun u => Tryz.strings_IndexRune_ascii ⟨#[34, 92, 47, 8, 12, 10, 13, 9]⟩ 13 u (by decide) (by decide))
  rw [show Lib.indexByte (ByteArray.mk #[34, 92, 47, 8, 12, 10, 13, 9]).data.toList (13 : Int).toNat.toUInt8 = 6 by decide] at HI
  go_enter Tryz.func51, Tryz.ntmps51
  go_wp2_with fail
  refine (HI.out _).mono ?_
  rintro e w1 ⟨rfl, hw⟩
  obtain rfl := hw.symm
  go_wp2_with (at_builtin; refine wpList_append_own _ rfl _ _ 39 rfl B 5 i0 (.int .u8 0) 1 1 Tryz.underlying39 hi0 hz0 hz1 hz2 rfl (by decide) _ _ _ rfl (hown.alloc _) ⟨w.heap.size, 0, none⟩ 2 2 [.int .u8 92, .int .u8 114] rfl rfl (by intro j u hj; match j, hj with | 0, hj => simp at hj; subst hj; simp [Addr.add] | 1, hj => simp at hj; subst hj; simp [Addr.add]; rfl) (by intro u hu; simp at hu; rcases hu with rfl | rfl <;> rfl) (by unfold maxLen; omega) (by omega) (by simp; omega) ?_)
  intro v1 w1 hown1 hgrow1 hnn
  obtain ⟨so, sc, hv⟩ := own_shape hown1
  have HB := Hid.mk (below_app hown hBw (Below.refl _ _) hgrow1)
  have HG := Hid.mk (grown_after hgrow1)
  have HO : Hid (w1.ownsRow B 5 1 v1 (n + 2) (Lib.byteCells (l ++ [92, 114]))) := by
    show World.ownsRow _ _ _ _ _ _ _
    rw [Lib.byteCells_append]
    exact hown1
  subst hv
  clear hown1 hgrow1 hnn hown
  go_wp2_with fail
  go_ret
  exact ⟨_, _, rfl, HO.out, HB.out, HG.out⟩


set_option maxRecDepth 100000 in
set_option maxHeartbeats 1600000 in
theorem q_9 (B n : Nat) (v : Value) (l : List UInt8) (w : World) (hown : w.ownsRow B 5 1 v n (Lib.byteCells l)) (hBw : B ≤ w.heap.size) (hn : n ≤ 1099511627776) :
    Calls Tryz.prog 51 #[v, .int .i32 9] w fun e w' => AppR B v w w' e (n + 2) (l ++ [92, 116]) := by
  obtain ⟨i0, hi0, hz0, hz1, hz2⟩ := info_parts Tryz.infoB
  obtain ⟨ao, cap, rfl⟩ := own_shape hown
  have HI := Hid.mk (fun u => Tryz.strings_IndexRune_ascii ⟨#[34, 92, 47, 8, 12, 10, 13, 9]⟩ 9 u (by decide) (by decide))
  rw [show Lib.indexByte (ByteArray.mk #[34, 92, 47, 8, 12, 10, 13, 9]).data.toList (9 : Int).toNat.toUInt8 = 7 by decide] at HI
  go_enter Tryz.func51, Tryz.ntmps51
  go_wp2_with fail
  refine (HI.out _).mono ?_
  rintro e w1 ⟨rfl, hw⟩
  obtain rfl := hw.symm
  go_wp2_with (at_builtin; refine wpList_append_own _ rfl _ _ 39 rfl B 5 i0 (.int .u8 0) 1 1 Tryz.underlying39 hi0 hz0 hz1 hz2 rfl (by decide) _ _ _ rfl (hown.alloc _) ⟨w.heap.size, 0, none⟩ 2 2 [.int .u8 92, .int .u8 116] rfl rfl (by intro j u hj; match j, hj with | 0, hj => simp at hj; subst hj; simp [Addr.add] | 1, hj => simp at hj; subst hj; simp [Addr.add]; rfl) (by intro u hu; simp at hu; rcases hu with rfl | rfl <;> rfl) (by unfold maxLen; omega) (by omega) (by simp; omega) ?_)
  intro v1 w1 hown1 hgrow1 hnn
  obtain ⟨so, sc, hv⟩ := own_shape hown1
  have HB := Hid.mk (below_app hown hBw (Below.refl _ _) hgrow1)
  have HG := Hid.mk (grown_after hgrow1)
  have HO : Hid (w1.ownsRow B 5 1 v1 (n + 2) (Lib.byteCells (l ++ [92, 116]))) := by
    show World.ownsRow _ _ _ _ _ _ _
    rw [Lib.byteCells_append]
    exact hown1
  subst hv
  clear hown1 hgrow1 hnn hown
  go_wp2_with fail
  go_ret
  exact ⟨_, _, rfl, HO.out, HB.out, HG.out⟩


set_option maxRecDepth 100000 in
set_option maxHeartbeats 1600000 in
theorem q_number (B n : Nat) (v : Value) (l : List UInt8) (r : Nat) (w : World) (hown : w.ownsRow B 5 1 v n (Lib.byteCells l)) (hBw : B ≤ w.heap.size) (hn : n ≤ 1099511627776) (hr : sgn r = none) (hr2 : r < 32 ∨ r = 127) :
    Calls Tryz.prog 51 #[v, .int .i32 (r : Int)] w fun e w' => AppR B v w w' e (n + 6) (l ++ unit r) := by
  obtain ⟨i0, hi0, hz0, hz1, hz2⟩ := info_parts Tryz.infoB
  obtain ⟨ao, cap, rfl⟩ := own_shape hown
  have HN := Hid.mk (fun u => w_byNumber r u (by omega))
  have hul : (unit r).length = 6 := rfl
  generalize unit r = ul at *
  obtain ⟨us, hus⟩ : ∃ us : ByteArray, us = ⟨ul.toArray⟩ := ⟨_, rfl⟩
  rw [← hus] at HN
  have hs6 : us.size = 6 := by rw [hus]; simp [ByteArray.size, hul]
  have HC : Hid (Lib.strCells us = Lib.byteCells ul) := by show _ = _; rw [hus]; rfl
  clear hus hul
  have HO := Hid.mk hown
  clear hown
  rcases hr2 with h32 | h127
  · have HI := Hid.mk (fun u => Tryz.strings_IndexRune_ascii ⟨#[34, 92, 47, 8, 12, 10, 13, 9]⟩ (r : Int) u (by omega) (by omega))
    have hidx : ∀ m, m < 32 → sgn m = none → Lib.indexByte (ByteArray.mk #[34, 92, 47, 8, 12, 10, 13, 9]).data.toList ((m : Nat) : Int).toNat.toUInt8 = -1 := by decide
    rw [hidx r h32 hr] at HI
    have q1 : ((r : Int) == 34) = false := by rw [beq_eq_false_iff_ne]; omega
    have q2 : ((r : Int) == 92) = false := by rw [beq_eq_false_iff_ne]; omega
    have q3 : (r : Int) < 32 := by omega
    clear hidx hr
    go_enter Tryz.func51, Tryz.ntmps51
    go_wp2_with fail
    refine (HI.out _).mono ?_
    rintro e w1 ⟨rfl, hw⟩
    obtain rfl := hw.symm
    go_wp2_with fail
    refine (HN.out _).mono ?_
    rintro e w1 ⟨rfl, hb1⟩
    have hown1 := own_below HO.out hb1
    have hBw1 : B ≤ w1.heap.size := Nat.le_trans hBw hb1.size
    have HG1 := Hid.mk (below_grown hb1 (Value.slice ao n cap).ownBlock)
    have HB1 : Hid (Below B w w1) := hb1.mono hBw
    clear hb1
    go_wp2_with (at_builtin; refine Lib.wpList_append_own_string _ rfl _ _ 39 9 rfl B 5 i0 Tryz.underlying39 Tryz.underlying9 hi0 hz0 hz1 hz2 _ _ _ rfl hown1 us rfl (by unfold maxLen; omega) (by omega) hBw1 ?_)
    intro v2 w2 hown2 hgrow2 hnn
    rw [HC.out] at hown2
    obtain ⟨so, sc, hv⟩ := own_shape hown2
    have HF : Hid (AppR B (.slice ao n cap) w w2 (.returned v2) (n + 6) (l ++ ul)) := by
      subst hv
      exact ⟨so, sc, rfl, by rw [Lib.byteCells_append]; exact hown2, HB1.out.trans ((Below.refl B w1).grown hgrow2 hBw1 (own_base hown1)), grown_trans HG1.out hgrow2⟩
    subst hv
    clear hown2 hgrow2 hnn hown1
    go_wp2_with fail
    go_ret
    exact HF.out
  · subst h127
    clear hr
    go_enter Tryz.func51, Tryz.ntmps51
    go_wp2_with fail
    refine (HN.out _).mono ?_
    rintro e w1 ⟨rfl, hb1⟩
    have hown1 := own_below HO.out hb1
    have hBw1 : B ≤ w1.heap.size := Nat.le_trans hBw hb1.size
    have HG1 := Hid.mk (below_grown hb1 (Value.slice ao n cap).ownBlock)
    have HB1 : Hid (Below B w w1) := hb1.mono hBw
    clear hb1
    go_wp2_with (at_builtin; refine Lib.wpList_append_own_string _ rfl _ _ 39 9 rfl B 5 i0 Tryz.underlying39 Tryz.underlying9 hi0 hz0 hz1 hz2 _ _ _ rfl hown1 us rfl (by unfold maxLen; omega) (by omega) hBw1 ?_)
    intro v2 w2 hown2 hgrow2 hnn
    rw [HC.out] at hown2
    obtain ⟨so, sc, hv⟩ := own_shape hown2
    have HF : Hid (AppR B (.slice ao n cap) w w2 (.returned v2) (n + 6) (l ++ ul)) := by
      subst hv
      exact ⟨so, sc, rfl, by rw [Lib.byteCells_append]; exact hown2, HB1.out.trans ((Below.refl B w1).grown hgrow2 hBw1 (own_base hown1)), grown_trans HG1.out hgrow2⟩
    subst hv
    clear hown2 hgrow2 hnn hown1
    go_wp2_with fail
    go_ret
    exact HF.out

set_option maxRecDepth 100000 in
set_option maxHeartbeats 1600000 in
theorem q_plain (B n : Nat) (v : Value) (l : List UInt8) (r : Nat) (w : World) (hown : w.ownsRow B 5 1 v n (Lib.byteCells l)) (hBw : B ≤ w.heap.size) (hn : n ≤ 1099511627776) (hR : isR r) (hr : sgn r = none) (hr2 : ¬ (r < 32 ∨ r = 127)) :
    Calls Tryz.prog 51 #[v, .int .i32 (r : Int)] w fun e w' => AppR B v w w' e (n + (enc r).length) (l ++ enc r) := by
  have hlt : r ≤ 1114111 := by unfold isR at hR; omega
  have hne : r ≠ 34 ∧ r ≠ 92 := by
    constructor
    · intro e; subst e; exact absurd hr (by decide)
    · intro e; subst e; exact absurd hr (by decide)
  have HA := Hid.mk (Tryz.utf8_AppendRune_plain B v n (Lib.byteCells l) (r : Int) (by omega) (by omega) w hown (by omega) hBw)
  have hcells : Lib.runeCells (r : Int) = Lib.byteCells (enc r) := by rw [← Lib.byteCells_encodeRune, encodeRune_enc r hR]
  have hlen : (Lib.byteCells (enc r)).length = (enc r).length := by simp [Lib.byteCells]
  rw [hcells, hlen] at HA
  obtain ⟨ao, cap, rfl⟩ := own_shape hown
  have q1 : ((r : Int) == 34) = false := by rw [beq_eq_false_iff_ne]; omega
  have q2 : ((r : Int) == 92) = false := by rw [beq_eq_false_iff_ne]; omega
  have q3 : ¬ (r : Int) < 32 := by omega
  have q4 : ((r : Int) == 127) = false := by rw [beq_eq_false_iff_ne]; omega
  have HO := Hid.mk hown
  clear hne hr hcells hlen hr2 hown
  go_enter Tryz.func51, Tryz.ntmps51
  go_wp2_with fail
  refine HA.out.mono ?_
  rintro e w1 ⟨v1, rfl, hown1, o, hg1⟩
  obtain ⟨so, sc, hv⟩ := own_shape hown1
  have HF : Hid (AppR B (.slice ao n cap) w w1 (.returned v1) (n + (enc r).length) (l ++ enc r)) := by
    subst hv
    exact ⟨so, sc, rfl, by rw [Lib.byteCells_append]; exact hown1, below_app HO.out hBw (Below.refl _ _) hg1, grown_after hg1⟩
  subst hv
  clear hown1 hg1
  go_wp2_with fail
  go_ret
  exact HF.out

theorem w_appendQuoted (B n : Nat) (v : Value) (l : List UInt8) (r : Nat) (w : World) (hown : w.ownsRow B 5 1 v n (Lib.byteCells l)) (hBw : B ≤ w.heap.size) (hn : n ≤ 1099511627776) (hR : isR r) :
    Calls Tryz.prog 51 #[v, .int .i32 (r : Int)] w fun e w' => AppR B v w w' e (n + (qd r).length) (l ++ qd r) := by
  by_cases h34 : r = 34
  · subst h34; exact q_34 B n v l w hown hBw hn
  by_cases h92 : r = 92
  · subst h92; exact q_92 B n v l w hown hBw hn
  by_cases h8 : r = 8
  · subst h8; exact q_8 B n v l w hown hBw hn
  by_cases h12 : r = 12
  · subst h12; exact q_12 B n v l w hown hBw hn
  by_cases h10 : r = 10
  · subst h10; exact f_appendQuoted B n v l w hown hBw hn
  by_cases h13 : r = 13
  · subst h13; exact q_13 B n v l w hown hBw hn
  by_cases h9 : r = 9
  · subst h9; exact q_9 B n v l w hown hBw hn
  have hs : sgn r = none := by simp [sgn, h34, h92, h8, h12, h10, h13, h9]
  by_cases h : r < 32 ∨ r = 127
  · have e : qd r = unit r := by unfold qd; rw [hs]; simp [h]
    rw [e]
    exact q_number B n v l r w hown hBw hn hs h
  · have e : qd r = enc r := by unfold qd; rw [hs]; simp [h]
    rw [e]
    exact q_plain B n v l r w hown hBw hn hR hs h
end Go.Proofs.YtcadknhedfnaoaaGreatDoor
namespace Go.Proofs.YtcadknhedfnaoaaGreatDoor
open Go.RowKit
set_option linter.unusedVariables false
set_option linter.unusedSimpArgs false

/-- what Quote writes between its quotes -/
def qb (zs : List Nat) : List UInt8 := zs.flatMap qd
theorem qb_cons (z : Nat) (r : List Nat) : qb (z :: r) = qd z ++ qb r := rfl
theorem qb_len (zs : List Nat) : (qb zs).length ≤ 6 * zs.length := by
  induction zs with
  | nil => exact Nat.le_refl _
  | cons z r ih =>
    have := (qd_len z).2
    rw [qb_cons, List.length_append, List.length_cons]; omega

theorem iterPos_of {w : World} {k : Nat} {s : ByteArray} {p : Nat} (h : w.heap[k]? = some (.stringIter s p)) : w.iterPos k = p := by simp [World.iterPos, h]
theorem drop_ne' {s : ByteArray} {p : Nat} (h : p < s.size) : s.data.toList.drop p ≠ [] := by
  intro e
  have := congrArg List.length e
  rw [List.length_drop, Array.length_toList, List.length_nil] at this
  have e2 : s.data.size = s.size := rfl
  omega
theorem step_le' {s : ByteArray} {p : Nat} (h : p < s.size) : p + (decL (s.data.toList.drop p)).2 ≤ s.size := by
  have := decL_le _ (drop_ne' h)
  rw [List.length_drop, Array.length_toList] at this
  have e2 : s.data.size = s.size := rfl
  omega
theorem drop_all' {s : ByteArray} {p : Nat} (h : ¬ p < s.size) : s.data.toList.drop p = [] := List.drop_eq_nil_of_le (by simp; omega)

/-- while Quote writes -/
structure QuSt (B k0 : Nat) (w wr : World) (v : Value) (n : Nat) (s : ByteArray) (pos : Nat) : Prop where
  iter : wr.heap[k0]? = some (.stringIter s pos)
  own : ∃ l, l.length = n ∧ wr.ownsRow B 5 1 v n (Lib.byteCells l) ∧ l ++ qb (runes (s.data.toList.drop pos)) = 34 :: qb (runes s.data.toList)
  below : Below B w wr

set_option maxRecDepth 100000 in
set_option maxHeartbeats 3200000 in
theorem w_Quote (s : ByteArray) (w : World) (hs : s.size ≤ 68719476736) :
    Calls Tryz.prog 22 #[.string s] w fun e w' => e = .returned (.string ⟨(34 :: (qb (runes s.data.toList) ++ [34])).toArray⟩) ∧ Below w.heap.size w w' := by
  obtain ⟨i0, hi0, hz0, hz1, hz2⟩ := info_parts Tryz.infoB
  have hmk := fun (u : World) => run_make_bytes (s.size + 2) ((s.size : Int) + 2) (by omega) (by omega) u
  have hown0 := own_bytes w (s.size + 2) (by omega)
  have hnews : ∀ (j : Nat) (u : Value), ([.int .u8 34] : List Value)[j]? = some u → ((w.alloc (brow (s.size + 2))).alloc (.cells #[.int .u8 34] 5)).cell? ((⟨w.heap.size + 1, 0, none⟩ : Addr).add j) = some u := by
    intro j u hj
    match j, hj with
    | 0, hj =>
      simp at hj
      subst hj
      have h := heap_alloc_new (w.alloc (brow (s.size + 2))) (.cells #[.int .u8 34] 5)
      rw [World.size_alloc] at h
      show World.cell? _ ⟨w.heap.size + 1, 0, none⟩ = _
      rw [cell_of_row _ _ _ _ _ _ h]
      rfl
  go_enter Tryz.func22, Tryz.ntmps22
  go_wp2_with (at_builtin; refine wpList_append_own _ rfl (.tmp 10) (.tmp 11) 39 rfl w.heap.size 5 i0 (.int .u8 0) 1 1 Tryz.underlying39 hi0 hz0 hz1 hz2 rfl (by decide) _ _ _ rfl (hown0.alloc _) ⟨w.heap.size + 1, 0, none⟩ 1 1 [.int .u8 34] rfl rfl hnews (by intro u hu; simp at hu; subst hu; rfl) (by decide) (by omega) (by simp; omega) ?_)
  intro v1 w1 hown1 hgrow1 hnn
  obtain ⟨so, sc, hv⟩ := own_shape hown1
  have HB1 : Hid (Below w.heap.size w w1) := below_app hown0 (by simp) (below1 w _) hgrow1
  have HO1 : Hid (w1.ownsRow w.heap.size 5 1 v1 1 (Lib.byteCells [34])) := hown1
  subst hv
  clear hown1 hgrow1 hnn hown0 hmk hnews
  have HS : Hid (QuSt w.heap.size w1.heap.size w (w1.iter s 0) (.slice so 1 sc) 1 s 0) :=
    ⟨World.iter_heap w1 s 0, ⟨[34], rfl, HO1.out.alloc _, rfl⟩, HB1.out.alloc HB1.out.size _⟩
  clear HO1
  obtain ⟨k0, hk0⟩ : ∃ k0, k0 = w1.heap.size := ⟨_, rfl⟩
  rw [← hk0] at HS
  go_wp2_with fail
  rw [← hk0]
  have HWK : Hid (w.heap.size ≤ k0) := by show _ ≤ _; rw [hk0]; exact HB1.out.size
  clear hk0 HB1
  go_loopw [3, 5] (fun l _ wr => ∃ (pos n : Nat) (ao : Option Addr) (cap : Nat), pos ≤ s.size ∧ n ≤ 1 + 6 * pos ∧ l = .slice ao n cap ∧ Hid (QuSt w.heap.size k0 w wr (.slice ao n cap) n s pos)) (fun _ _ wr => s.size - wr.iterPos k0)
  case atStart => exact ⟨0, 1, so, sc, Nat.zero_le _, by omega, rfl, HS⟩
  case round =>
    obtain ⟨pos, n, ao, cap, hpos, hn, rfl, HQ⟩ := hrel
    have hkr := HQ.out.iter
    have HM : Hid (wr.iterPos k0 = pos) := iterPos_of hkr
    by_cases hp : pos < s.size
    · obtain ⟨q, hq⟩ : ∃ q, q = pos + (decL (s.data.toList.drop pos)).2 := ⟨_, rfl⟩
      obtain ⟨r, hr⟩ : ∃ r, r = (decL (s.data.toList.drop pos)).1 := ⟨_, rfl⟩
      have h1 := decL_pos (s.data.toList.drop pos)
      have h2 := step_le' hp
      have hR := decL_isR _ (drop_ne' hp)
      have hdr : runes (s.data.toList.drop pos) = r :: runes (s.data.toList.drop q) := by
        rw [runes_cons (drop_ne' hp), List.drop_drop, ← hq, ← hr]
      obtain ⟨W1, hW1⟩ : ∃ W : World, W = wr.iterAt k0 s q := ⟨_, rfl⟩
      have hn1 := nxtAt wr k0 s pos r q hkr hp (by rw [decode_eq s pos hpos]; exact Prod.ext hr.symm (by show _ = q - pos; omega)) (by omega)
      have hk1 := Lib.iterAt_heap wr k0 s pos q hkr
      obtain ⟨l, hl, hown, hlq⟩ := HQ.out.own
      have ho1 := own_iterAt hown hkr q
      have hwk := HWK.out
      have hB1 := Lib.below_iterAt HQ.out.below hwk s q
      rw [← hW1] at hn1 hk1 ho1 hB1
      rw [← hr] at hR
      rw [← hq] at h2
      clear hW1
      have HCall := Hid.mk (w_appendQuoted w.heap.size n (.slice ao n cap) l r W1 ho1 hB1.size (by omega) hR)
      have HK1 := Hid.mk hk1
      have HO1 := Hid.mk ho1
      have HBW := Hid.mk hB1
      have HX : Hid ((l ++ qd r) ++ qb (runes (s.data.toList.drop q)) = 34 :: qb (runes s.data.toList)) := by
        show _ = _
        rw [← hlq, hdr, qb_cons, List.append_assoc]
      have hqd := qd_len r
      have HL := Hid.mk hl
      clear hk1 ho1 hB1 hlq hdr hown hl hR hr
      have hq1 : pos + 1 ≤ q := by omega
      clear hq h1
      go_wp2_with fail
      refine HCall.out.mono ?_
      rintro e w3 ⟨ro, rc, rfl, hown3, hb3, hg3⟩
      have HN : Hid (QuSt w.heap.size k0 w w3 (.slice ro (n + (qd r).length) rc) (n + (qd r).length) s q) :=
        ⟨iter_kept HO1.out HK1.out hg3, ⟨l ++ qd r, by rw [List.length_append, HL.out], hown3, HX.out⟩, HBW.out.trans hb3⟩
      have HM3 : Hid (w3.iterPos k0 = q) := iterPos_of HN.out.iter
      clear hown3 hb3 hg3 HCall
      go_wp2_with fail
      go_roundw
      case rel => exact ⟨q, n + (qd r).length, ro, rc, h2, by omega, rfl, HN⟩
      case measure => rw [HM3.out, HM.out]; omega
    · have hne := fun ty => Lib.run_next_end_at (P := Tryz.prog) wr k0 s pos ty hkr hp
      obtain ⟨l, hl, hown, hlq⟩ := HQ.out.own
      rw [drop_all' hp, runes_nil] at hlq
      have hlq2 : l = 34 :: qb (runes s.data.toList) := by rw [← hlq]; simp [qb]
      have hsz := HQ.out.below.size
      have HLQ := Hid.mk hlq2
      clear hlq hkr hlq2
      go_wp2_with (at_builtin; refine wpList_append_own _ rfl (.tmp 21) (.tmp 22) 39 rfl w.heap.size 5 i0 (.int .u8 0) 1 1 Tryz.underlying39 hi0 hz0 hz1 hz2 rfl (by decide) _ _ _ rfl (hown.alloc _) ⟨wr.heap.size, 0, none⟩ 1 1 [.int .u8 34] rfl rfl (by intro j u hj; match j, hj with | 0, hj => simp at hj; subst hj; simp [Addr.add]) (by intro u hu; simp at hu; subst hu; rfl) (by unfold maxLen; omega) (by omega) (by simp; omega) ?_)
      intro v4 w4 hown4 hgrow4 hnn
      have hown4 : w4.ownsRow w.heap.size 5 1 v4 (n + 1) (Lib.byteCells (l ++ [34])) := by rw [Lib.byteCells_append]; exact hown4
      obtain ⟨g4, c4, hv4⟩ := own_some hown4 (Nat.succ_pos _)
      have HB4 : Hid (Below w.heap.size w w4) := below_app hown HQ.out.below.size HQ.out.below hgrow4
      subst hv4
      have hcv := bytes_conv (n := n + 1) (l := l ++ [34]) (by rw [List.length_append, hl]; rfl) hown4
      have HE : Hid (l ++ [34] = 34 :: (qb (runes s.data.toList) ++ [34])) := by show _ = _; rw [HLQ.out]; rfl
      clear hown4 hgrow4 hnn hown hne
      go_wp2_with fail
      go_ret
      exact ⟨by rw [HE.out]; rfl, HB4.out⟩
end Go.Proofs.YtcadknhedfnaoaaGreatDoor
namespace Go.Proofs.YtcadknhedfnaoaaGreatDoor
open Go.RowKit
set_option linter.unusedVariables false
set_option linter.unusedSimpArgs false

theorem hx_hex : ∀ i, i < 16 → isHex (hx i) = true := by decide
theorem hx_val : ∀ i, i < 16 → hexd (hx i) = i := by decide

/-- the four digits of a number -/
def four (n : Nat) : List UInt8 := [hx (n / 4096), hx (n / 256 % 16), hx (n / 16 % 16), hx (n % 16)]
theorem unit_four (n : Nat) : unit n = 92 :: 117 :: four n := rfl
theorem four_hex (n : Nat) (h : n < 65536) : (four n).all isHex = true := by
  unfold four
  simp only [List.all_cons, List.all_nil, Bool.and_true, Bool.and_eq_true]
  exact ⟨hx_hex _ (by omega), hx_hex _ (by omega), hx_hex _ (by omega), hx_hex _ (by omega)⟩
theorem four_val (n : Nat) (h : n < 65536) : hexN (four n) = n := by
  unfold four hexN
  simp only [List.foldl_cons, List.foldl_nil]
  rw [hx_val _ (by omega), hx_val _ (by omega), hx_val _ (by omega), hx_val _ (by omega)]
  omega

theorem num_at (s : ByteArray) (pre post : List UInt8) (n : Nat) (h : n < 65536) (e : s.data.toList = pre ++ unit n ++ post) : NumAt s pre.length (four n) :=
  ⟨rfl, four_hex n h, pre, post, e, rfl⟩

theorem esc_len (n : Nat) : (esc n).length = 6 ∨ (esc n).length = 12 := by
  unfold esc
  split
  · left; rfl
  · right; rfl

end Go.Proofs.YtcadknhedfnaoaaGreatDoor
namespace Go.Proofs.YtcadknhedfnaoaaGreatDoor
open Go.RowKit
set_option linter.unusedVariables false
set_option linter.unusedSimpArgs false
end Go.Proofs.YtcadknhedfnaoaaGreatDoor
namespace Go.Proofs.YtcadknhedfnaoaaGreatDoor
open Go.RowKit
set_option linter.unusedVariables false
set_option linter.unusedSimpArgs false

theorem conv_zero (w : World) (p : Option Addr) (c : Nat) : (convert 39 9 (.slice p 0 c)).run Tryz.prog w = .ok (.string ByteArray.empty) w := by
  rw [run_convert_bytes_string w 39 9 5 _ 0 c Tryz.underlying39 Tryz.underlying5 Tryz.underlying9]
  cases p <;> simp [Conv.bytesToString, loadCells]
  all_goals rfl
theorem conv_own {wr : World} {base n : Nat} {l : List UInt8} {ao : Option Addr} {cap : Nat} (h1 : l.length = n) (h3 : wr.ownsRow base 5 1 (.slice ao n cap) n (Lib.byteCells l)) : (convert 39 9 (.slice ao n cap)).run Tryz.prog wr = .ok (.string ⟨l.toArray⟩) wr := by
  by_cases hn : 0 < n
  · obtain ⟨g, cap', hv⟩ := own_some h3 hn
    cases hv
    exact bytes_conv h1 h3
  · have e : n = 0 := by omega
    subst e
    have e2 : l = [] := List.eq_nil_of_length_eq_zero h1
    subst e2
    exact conv_zero wr ao cap

theorem txt_len' (zs : List Nat) : (txt zs).length ≤ 4 * zs.length := by
  induction zs with
  | nil => exact Nat.le_refl _
  | cons z r ih =>
    have e2 : txt (z :: r) = enc z ++ txt r := rfl
    have := (enc_len z).2
    rw [e2, List.length_append, List.length_cons]; omega
theorem qb_ge (zs : List Nat) : zs.length ≤ (qb zs).length := by
  induction zs with
  | nil => exact Nat.le_refl _
  | cons z r ih => have := (qd_len z).1; rw [qb_cons, List.length_append, List.length_cons]; omega
theorem txt_snoc (zs : List Nat) (z : Nat) : txt (zs ++ [z]) = txt zs ++ enc z := by simp [txt]

/-- a byte of an escape is its own piece -/
theorem dec_ascii (c : UInt8) (l : List UInt8) (h : c.toNat < 128) : decL (c :: l) = (c.toNat, 1) := dec1 l rfl h

/-- while a literal is read: m is what is left of an escape that has been taken -/
structure UnSt (B k0 : Nat) (w wr : World) (v : Value) (n : Nat) (T : ByteArray) (tail : List UInt8) (zs : List Nat) (pos m : Nat) : Prop where
  iter : wr.heap[k0]? = some (.stringIter T pos)
  below : Below B w wr
  own : ∃ done rest ms, (txt done).length = n ∧ wr.ownsRow B 5 1 v n (Lib.byteCells (txt done)) ∧ done ++ rest = zs ∧ ms.length = m ∧ (∀ c ∈ ms, c.toNat < 128) ∧ T.data.toList.drop pos = ms ++ (qb rest ++ 34 :: tail)

theorem unit_ascii (n : Nat) (h : n < 65536) : ∀ c ∈ unit n, c.toNat < 128 := by
  have hh : ∀ i, i < 16 → (hx i).toNat < 128 := by decide
  intro c hc
  unfold unit at hc
  simp only [List.mem_cons, List.not_mem_nil, or_false] at hc
  rcases hc with rfl | rfl | rfl | rfl | rfl | rfl
  · decide
  · decide
  · exact hh _ (by omega)
  · exact hh _ (by omega)
  · exact hh _ (by omega)
  · exact hh _ (by omega)
theorem sgn_ascii {z : Nat} {c : UInt8} (h : sgn z = some c) : c.toNat < 128 := by
  unfold sgn at h
  repeat' split at h
  all_goals first | cases h; decide | cases h
theorem sgn_lt {z : Nat} {c : UInt8} (h : sgn z = some c) : z < 128 := by
  unfold sgn at h
  repeat' split at h
  all_goals first | omega | cases h

theorem un_rune {B k0 n q z : Nat} {w W : World} {v : Value} {T : ByteArray} {tail ms : List UInt8} {zs done rest : List Nat} (hi : W.heap[k0]? = some (.stringIter T q)) (hb : Below B w W) (hB : B ≤ W.heap.size) (hn : (txt done).length = n) (hown : W.ownsRow B 5 1 v n (Lib.byteCells (txt done))) (hz : isR z) (hd : done ++ z :: rest = zs) (hasc : ∀ c ∈ ms, c.toNat < 128) (hdrop : T.data.toList.drop q = ms ++ (qb rest ++ 34 :: tail)) (hlim : n ≤ 4398046511104) :
    Calls Tryz.prog 92 #[v, .int .i32 (z : Int)] W fun e w' => ∃ ao cap, e = .returned (.slice ao (n + (enc z).length) cap) ∧ Hid (UnSt B k0 w w' (.slice ao (n + (enc z).length) cap) (n + (enc z).length) T tail zs q ms.length) := by
  have hlt : z ≤ 1114111 := by unfold isR at hz; omega
  have HA := Tryz.utf8_AppendRune_plain B v n (Lib.byteCells (txt done)) (z : Int) (by omega) (by omega) W hown (by omega) hB
  have hcells : Lib.runeCells (z : Int) = Lib.byteCells (enc z) := by rw [← Lib.byteCells_encodeRune, encodeRune_enc z hz]
  have hlen : (Lib.byteCells (enc z)).length = (enc z).length := by simp [Lib.byteCells]
  rw [hcells, hlen] at HA
  refine HA.mono ?_
  rintro e w1 ⟨v1, rfl, hown1, o, hg1⟩
  obtain ⟨so, sc, rfl⟩ := own_shape hown1
  refine ⟨so, sc, rfl, ⟨iter_kept hown hi (grown_after hg1), below_app hown hB hb hg1, done ++ [z], rest, ms, ?_, ?_, ?_, rfl, hasc, hdrop⟩⟩
  · rw [txt_snoc, List.length_append, hn]
  · rw [txt_snoc, Lib.byteCells_append]; exact hown1
  · rw [← hd]; simp
end Go.Proofs.YtcadknhedfnaoaaGreatDoor
namespace Go.Proofs.YtcadknhedfnaoaaGreatDoor
open Go.RowKit
set_option linter.unusedVariables false
set_option linter.unusedSimpArgs false


/-- what a call that answers a rune and a word may answer -/
def RuneB (w w' : World) (e : Ending) (P : Int → Bool → Prop) : Prop := ∃ r b, e = .returned (.tuple #[.int .i32 r, .bool b]) ∧ P r b ∧ Below w.heap.size w w'

set_option maxRecDepth 100000 in
theorem sign_none (c : UInt8) (h : c ≠ 34 ∧ c ≠ 92 ∧ c ≠ 47 ∧ c ≠ 98 ∧ c ≠ 102 ∧ c ≠ 110 ∧ c ≠ 114 ∧ c ≠ 116) : Lib.indexByte (ByteArray.mk #[34, 92, 47, 98, 102, 110, 114, 116]).data.toList ((c.toNat : Nat) : Int).toNat.toUInt8 = -1 := by
  have : ∀ m : Fin 256, (m.val ≠ 34 ∧ m.val ≠ 92 ∧ m.val ≠ 47 ∧ m.val ≠ 98 ∧ m.val ≠ 102 ∧ m.val ≠ 110 ∧ m.val ≠ 114 ∧ m.val ≠ 116) → Lib.indexByte (ByteArray.mk #[34, 92, 47, 98, 102, 110, 114, 116]).data.toList ((m.val : Nat) : Int).toNat.toUInt8 = -1 := by decide
  have hn : ∀ k : UInt8, c ≠ k → c.toNat ≠ k.toNat := fun k hk e => hk (UInt8.toNat_inj.1 e)
  exact this ⟨c.toNat, c.toNat_lt⟩ ⟨hn 34 h.1, hn 92 h.2.1, hn 47 h.2.2.1, hn 98 h.2.2.2.1, hn 102 h.2.2.2.2.1, hn 110 h.2.2.2.2.2.1, hn 114 h.2.2.2.2.2.2.1, hn 116 h.2.2.2.2.2.2.2⟩
end Go.Proofs.YtcadknhedfnaoaaGreatDoor
namespace Go.Proofs.YtcadknhedfnaoaaGreatDoor
open Go.RowKit
set_option linter.unusedVariables false
set_option linter.unusedSimpArgs false

/-- what Escape may answer -/
def EscR (w w' : World) (e : Ending) : Prop := ∃ r p c, e = .returned (.tuple #[.int .i32 r, .int .i64 p, .int .i64 c]) ∧ (c = 0 ∨ c = 23 ∨ c = 24) ∧ 0 ≤ r ∧ r ≤ 2147483647 ∧ 0 ≤ p ∧ p ≤ 9223372036854775807 ∧ Below w.heap.size w w'
end Go.Proofs.YtcadknhedfnaoaaGreatDoor
