import Derived.Test.YtgnaeddpdomgkabDoorTen35
import Derived.Test.YtgnaeddpdomgkabDoorTen24
namespace Go.Proofs.YtgnaeddpdomgkabDoor
open Go.RowKit
set_option linter.unusedVariables false
set_option linter.unusedSimpArgs false

set_option maxRecDepth 100000 in
set_option maxHeartbeats 800000 in
theorem w_Mul (a b : ByteArray) (w : World) (ha : a.size ≤ 4294967296) (hb : b.size ≤ 4294967296) (fa : Pl.formed a.data.toList = true) (fb : Pl.formed b.data.toList = true) (htab : Tab w) :
    Calls Tryd.prog 21 #[.string a, .string b] w fun e w' => Ans w w' e (Pl.ival a.data.toList * Pl.ival b.data.toList) := by
  have h1 := pow_more (dvl_pow fa) (Nat.le_max_left a.size b.size)
  have h2 := pow_more (dvl_pow fb) (Nat.le_max_right a.size b.size)
  have hz : (Pl.ival a.data.toList * Pl.ival b.data.toList).natAbs < 1000000000 ^ (a.size + b.size) := by
    rw [Int.natAbs_mul, natAbs_ival, natAbs_ival, Nat.pow_add]
    exact Nat.mul_lt_mul'' (dvl_pow fa) (dvl_pow fb)
  have HW := Hid.mk (w_two_times a b _ _ w ha hb fa fb htab hz (by omega) (fun u v1 v2 n1 n2 => w_times _ _ v1 v2 _ _ _ u n1 n2 h1 h2 (by omega)))
  clear h1 h2 hz
  go_enter Tryd.func21, Tryd.ntmps21
  go_wp2_with fail
  refine HW.out.mono ?_
  rintro e w1 ⟨r, rfl, r1, r2, r3⟩
  have HR := Hid.mk (And.intro r1 (And.intro r2 r3))
  clear r1 r2 r3
  go_wp2_with fail
  go_ret2
  exact ⟨r, rfl, HR.out.1, HR.out.2.1, HR.out.2.2⟩

/-- what the law's helper answers -/
def AnsL (w w' : World) (e : Ending) (z : Int) : Prop := ∃ r : ByteArray, e = .returned (.string r) ∧ Pl.formed r.data.toList = true ∧ Pl.ival r.data.toList = z ∧ Below w.heap.size w w'

set_option maxRecDepth 100000 in
set_option maxHeartbeats 800000 in
theorem w_lsum (a b : ByteArray) (w : World) (ha : a.size ≤ 4294967296) (hb : b.size ≤ 4294967296) (fa : Pl.formed a.data.toList = true) (fb : Pl.formed b.data.toList = true) (htab : Tab w) :
    Calls Tryd.prog 8 #[.string a, .string b] w fun e w' => AnsL w w' e (Pl.ival a.data.toList + Pl.ival b.data.toList) := by
  have HW := Hid.mk (w_Add a b w ha hb fa fb htab)
  clear fa fb htab
  go_enter Tryd.func8, Tryd.ntmps8
  go_wp2_with fail
  refine HW.out.mono ?_
  rintro e w1 ⟨r, rfl, r1, r2, r3⟩
  have HR := Hid.mk (And.intro r1 (And.intro r2 r3))
  clear r1 r2 r3
  go_wp2_with fail
  go_ret
  exact ⟨r, rfl, HR.out.1, HR.out.2.1, HR.out.2.2⟩

set_option maxRecDepth 100000 in
set_option maxHeartbeats 800000 in
theorem w_ldifference (a b : ByteArray) (w : World) (ha : a.size ≤ 4294967296) (hb : b.size ≤ 4294967296) (fa : Pl.formed a.data.toList = true) (fb : Pl.formed b.data.toList = true) (htab : Tab w) :
    Calls Tryd.prog 9 #[.string a, .string b] w fun e w' => AnsL w w' e (Pl.ival a.data.toList - Pl.ival b.data.toList) := by
  have HW := Hid.mk (w_Sub a b w ha hb fa fb htab)
  clear fa fb htab
  go_enter Tryd.func9, Tryd.ntmps9
  go_wp2_with fail
  refine HW.out.mono ?_
  rintro e w1 ⟨r, rfl, r1, r2, r3⟩
  have HR := Hid.mk (And.intro r1 (And.intro r2 r3))
  clear r1 r2 r3
  go_wp2_with fail
  go_ret
  exact ⟨r, rfl, HR.out.1, HR.out.2.1, HR.out.2.2⟩

set_option maxRecDepth 100000 in
set_option maxHeartbeats 800000 in
theorem w_lproduct (a b : ByteArray) (w : World) (ha : a.size ≤ 4294967296) (hb : b.size ≤ 4294967296) (fa : Pl.formed a.data.toList = true) (fb : Pl.formed b.data.toList = true) (htab : Tab w) :
    Calls Tryd.prog 10 #[.string a, .string b] w fun e w' => AnsL w w' e (Pl.ival a.data.toList * Pl.ival b.data.toList) := by
  have HW := Hid.mk (w_Mul a b w ha hb fa fb htab)
  clear fa fb htab
  go_enter Tryd.func10, Tryd.ntmps10
  go_wp2_with fail
  refine HW.out.mono ?_
  rintro e w1 ⟨r, rfl, r1, r2, r3⟩
  have HR := Hid.mk (And.intro r1 (And.intro r2 r3))
  clear r1 r2 r3
  go_wp2_with fail
  go_ret
  exact ⟨r, rfl, HR.out.1, HR.out.2.1, HR.out.2.2⟩

end Go.Proofs.YtgnaeddpdomgkabDoor
