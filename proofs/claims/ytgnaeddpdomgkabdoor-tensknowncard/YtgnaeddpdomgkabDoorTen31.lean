import Derived.Test.YtgnaeddpdomgkabDoorTen30
namespace Go.Proofs.YtgnaeddpdomgkabDoor
open Go.RowKit
set_option linter.unusedVariables false
set_option linter.unusedSimpArgs false

theorem natAbs_ival (l : List UInt8) : (Pl.ival l).natAbs = Pl.dvl (Pl.body l) := by
  unfold Pl.ival; split <;> omega

theorem pow_more {x n K : Nat} (h : x < 1000000000 ^ n) (hn : n ≤ K) : x < 1000000000 ^ K := Nat.lt_of_lt_of_le h (Nat.pow_le_pow_right (by decide) hn)

set_option maxRecDepth 100000 in
set_option maxHeartbeats 800000 in
theorem w_Add (a b : ByteArray) (w : World) (ha : a.size ≤ 4294967296) (hb : b.size ≤ 4294967296) (fa : Pl.formed a.data.toList = true) (fb : Pl.formed b.data.toList = true) (htab : Tab w) :
    Calls Tryd.prog 14 #[.string a, .string b] w fun e w' => Ans w w' e (Pl.ival a.data.toList + Pl.ival b.data.toList) := by
  have h1 := pow_more (dvl_pow fa) (Nat.le_max_left a.size b.size)
  have h2 := pow_more (dvl_pow fb) (Nat.le_max_right a.size b.size)
  have hz : (Pl.ival a.data.toList + Pl.ival b.data.toList).natAbs < 1000000000 ^ (max a.size b.size + 1) := by
    have e1 := natAbs_ival a.data.toList
    have e2 := natAbs_ival b.data.toList
    have : (Pl.ival a.data.toList + Pl.ival b.data.toList).natAbs ≤ (Pl.ival a.data.toList).natAbs + (Pl.ival b.data.toList).natAbs := Int.natAbs_add_le _ _
    rw [Nat.pow_succ]; omega
  have HW := Hid.mk (w_two_plus a b _ _ w ha hb fa fb htab hz (by omega) (fun u v1 v2 n1 n2 => w_plus _ _ v1 v2 _ _ _ u n1 n2 h1 h2 (by omega)))
  clear h1 h2 hz
  go_enter Tryd.func14, Tryd.ntmps14
  go_wp2_with fail
  refine HW.out.mono ?_
  rintro e w1 ⟨r, rfl, r1, r2, r3⟩
  have HR := Hid.mk (And.intro r1 (And.intro r2 r3))
  clear r1 r2 r3
  go_wp2_with fail
  go_ret2
  exact ⟨r, rfl, HR.out.1, HR.out.2.1, HR.out.2.2⟩

set_option maxRecDepth 100000 in
set_option maxHeartbeats 800000 in
theorem w_Sub (a b : ByteArray) (w : World) (ha : a.size ≤ 4294967296) (hb : b.size ≤ 4294967296) (fa : Pl.formed a.data.toList = true) (fb : Pl.formed b.data.toList = true) (htab : Tab w) :
    Calls Tryd.prog 20 #[.string a, .string b] w fun e w' => Ans w w' e (Pl.ival a.data.toList - Pl.ival b.data.toList) := by
  have h1 := pow_more (dvl_pow fa) (Nat.le_max_left a.size b.size)
  have h2 := pow_more (dvl_pow fb) (Nat.le_max_right a.size b.size)
  have hz : (Pl.ival a.data.toList - Pl.ival b.data.toList).natAbs < 1000000000 ^ (max a.size b.size + 1) := by
    have e1 := natAbs_ival a.data.toList
    have e2 := natAbs_ival b.data.toList
    rw [Nat.pow_succ]; omega
  have HW := Hid.mk (w_two_less a b _ _ w ha hb fa fb htab hz (by omega) (fun u v1 v2 n1 n2 => w_less _ _ v1 v2 _ _ _ u n1 n2 h1 h2 (by omega)))
  clear h1 h2 hz
  go_enter Tryd.func20, Tryd.ntmps20
  go_wp2_with fail
  refine HW.out.mono ?_
  rintro e w1 ⟨r, rfl, r1, r2, r3⟩
  have HR := Hid.mk (And.intro r1 (And.intro r2 r3))
  clear r1 r2 r3
  go_wp2_with fail
  go_ret2
  exact ⟨r, rfl, HR.out.1, HR.out.2.1, HR.out.2.2⟩

end Go.Proofs.YtgnaeddpdomgkabDoor
