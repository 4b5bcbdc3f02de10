import Derived.Test.YtgnaeddpdomgkabDoorTen35
import Derived.Test.YtgnaeddpdomgkabDoorWalk5
import Derived.Test.YtgnaeddpdomgkabDoorWalk4
namespace Go.Proofs.YtgnaeddpdomgkabDoor
open Go.RowKit
set_option linter.unusedVariables false
set_option linter.unusedSimpArgs false

set_option maxRecDepth 100000 in
set_option maxHeartbeats 800000 in
theorem w_three (a b c : ByteArray) (w : World) (ha : a.size ≤ 4294967296) (hb : b.size ≤ 4294967296) (hc : c.size ≤ 4294967296) :
    Calls Tryd.prog 16 #[.string a, .string b, .string c] w fun e w' => e = .returned (.bool (Pl.formed a.data.toList && Pl.formed b.data.toList && Pl.formed c.data.toList)) ∧ Below w.heap.size w w' := by
  have HA := Hid.mk (fun (u : World) => w_rFormed a u (by unfold maxLen; omega))
  have HB := Hid.mk (fun (u : World) => w_rFormed b u (by unfold maxLen; omega))
  have HC := Hid.mk (fun (u : World) => w_rFormed c u (by unfold maxLen; omega))
  generalize Pl.formed a.data.toList = fa at *
  generalize Pl.formed b.data.toList = fb at *
  generalize Pl.formed c.data.toList = fc at *
  go_enter Tryd.func16, Tryd.ntmps16
  go_wp2_with fail
  refine (HA.out _).mono ?_
  rintro e w1 ⟨rfl, rfl⟩
  cases fa
  · go_wp2_with fail
    go_ret
    exact ⟨rfl, Below.refl _ _⟩
  · go_wp2_with fail
    refine (HB.out _).mono ?_
    rintro e w2 ⟨rfl, rfl⟩
    cases fb
    · go_wp2_with fail
      go_ret
      exact ⟨rfl, Below.refl _ _⟩
    · go_wp2_with fail
      refine (HC.out _).mono ?_
      rintro e w3 ⟨rfl, rfl⟩
      go_wp2_with fail
      go_ret
      exact ⟨by simp, Below.refl _ _⟩

theorem w_CmpF (a b : ByteArray) (w : World) (ha : a.size ≤ 4294967296) (hb : b.size ≤ 4294967296) (fa : Pl.formed a.data.toList = true) (fb : Pl.formed b.data.toList = true) :
    Calls Tryd.prog 17 #[.string a, .string b] w fun e w' => e = .returned (.tuple #[.int .i64 (Pl.cmpI (Pl.ival a.data.toList) (Pl.ival b.data.toList)), .int .i64 0]) ∧ Below w.heap.size w w' := by
  refine (w_Cmp a b w (by unfold maxLen; omega) (by unfold maxLen; omega)).mono ?_
  rintro e w' ⟨rfl, h⟩
  refine ⟨?_, h⟩
  rw [Pl.cmpN_val fa fb]
  unfold Pl.errN
  rw [fa, fb]; rfl

theorem formed_size {s : ByteArray} (h : Pl.formed s.data.toList = true) : 0 < s.size := by
  have h2 : s.data.toList.length = s.size := Array.length_toList
  rcases Nat.eq_zero_or_pos s.size with h0 | h0
  · have : s.data.toList = [] := List.eq_nil_of_length_eq_zero (by omega)
    rw [this] at h; simp [Pl.formed, Pl.body, Pl.neg, Pl.plainB] at h
  · exact h0

theorem ival_lt {s : ByteArray} (h : Pl.formed s.data.toList = true) : (Pl.ival s.data.toList).natAbs < 10 ^ s.size := by
  rw [natAbs_ival]
  exact Nat.lt_of_lt_of_le (Pl.dvl_lt _ (formed_digs h)) (Nat.pow_le_pow_right (by decide) (body_size s))

/-- a sum's, a difference's and a product's length -/
theorem add_size {a b r : ByteArray} {K : Nat} (ha : Pl.formed a.data.toList = true) (hb : Pl.formed b.data.toList = true) (hr : Pl.formed r.data.toList = true) (h : Pl.ival r.data.toList = Pl.ival a.data.toList + Pl.ival b.data.toList) (sa : a.size ≤ K) (sb : b.size ≤ K) : r.size ≤ K + 2 := by
  have h1 := Nat.lt_of_lt_of_le (ival_lt ha) (Nat.pow_le_pow_right (by decide : 0 < 10) sa)
  have h2 := Nat.lt_of_lt_of_le (ival_lt hb) (Nat.pow_le_pow_right (by decide : 0 < 10) sb)
  refine text_size (K := K + 1) hr ?_ (by omega)
  have h3 : (Pl.ival a.data.toList + Pl.ival b.data.toList).natAbs ≤ (Pl.ival a.data.toList).natAbs + (Pl.ival b.data.toList).natAbs := Int.natAbs_add_le _ _
  rw [h, Nat.pow_succ]; omega
theorem sub_size {a b r : ByteArray} {K : Nat} (ha : Pl.formed a.data.toList = true) (hb : Pl.formed b.data.toList = true) (hr : Pl.formed r.data.toList = true) (h : Pl.ival r.data.toList = Pl.ival a.data.toList - Pl.ival b.data.toList) (sa : a.size ≤ K) (sb : b.size ≤ K) : r.size ≤ K + 2 := by
  have h1 := Nat.lt_of_lt_of_le (ival_lt ha) (Nat.pow_le_pow_right (by decide : 0 < 10) sa)
  have h2 := Nat.lt_of_lt_of_le (ival_lt hb) (Nat.pow_le_pow_right (by decide : 0 < 10) sb)
  refine text_size (K := K + 1) hr ?_ (by omega)
  rw [h, Nat.pow_succ]; omega
theorem mul_size {a b r : ByteArray} {K L : Nat} (ha : Pl.formed a.data.toList = true) (hb : Pl.formed b.data.toList = true) (hr : Pl.formed r.data.toList = true) (h : Pl.ival r.data.toList = Pl.ival a.data.toList * Pl.ival b.data.toList) (sa : a.size ≤ K) (sb : b.size ≤ L) : r.size ≤ K + L + 1 := by
  have h1 := Nat.lt_of_lt_of_le (ival_lt ha) (Nat.pow_le_pow_right (by decide : 0 < 10) sa)
  have h2 := Nat.lt_of_lt_of_le (ival_lt hb) (Nat.pow_le_pow_right (by decide : 0 < 10) sb)
  have h0 := formed_size ha
  refine text_size (K := K + L) hr ?_ (by omega)
  rw [h, Int.natAbs_mul, Nat.pow_add]
  exact Nat.mul_lt_mul'' h1 h2
theorem abs_size {a r : ByteArray} {K : Nat} (ha : Pl.formed a.data.toList = true) (hr : Pl.formed r.data.toList = true) (h : (Pl.ival r.data.toList).natAbs ≤ (Pl.ival a.data.toList).natAbs) (sa : a.size ≤ K) : r.size ≤ K + 1 := by
  have h1 := Nat.lt_of_lt_of_le (ival_lt ha) (Nat.pow_le_pow_right (by decide : 0 < 10) sa)
  have h0 := formed_size ha
  exact text_size (K := K) hr (by omega) (by omega)

theorem toList_eq (a b : ByteArray) (ha : Pl.formed a.data.toList = true) (hb : Pl.formed b.data.toList = true) : (a.toList == b.toList) = decide (Pl.ival a.data.toList = Pl.ival b.data.toList) := by
  rw [Lib.toList_data, Lib.toList_data]
  by_cases h : Pl.ival a.data.toList = Pl.ival b.data.toList
  · rw [ival_inj ha hb h]; simp
  · have : a.data.toList ≠ b.data.toList := fun e => h (by rw [e])
    rw [beq_eq_false_iff_ne.2 this]; simp [h]
end Go.Proofs.YtgnaeddpdomgkabDoor
