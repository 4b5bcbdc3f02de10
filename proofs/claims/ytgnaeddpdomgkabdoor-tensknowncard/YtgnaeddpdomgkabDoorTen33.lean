import Derived.Test.YtgnaeddpdomgkabDoorTen32
namespace Go.Proofs.YtgnaeddpdomgkabDoor
open Go.RowKit
set_option linter.unusedVariables false
set_option linter.unusedSimpArgs false

set_option maxRecDepth 100000 in
set_option maxHeartbeats 800000 in
theorem w_overDiv (a b : ByteArray) (w : World) (ha : a.size ≤ 4294967296) (hb : b.size ≤ 4294967296) (fa : Pl.formed a.data.toList = true) (fb : Pl.formed b.data.toList = true) (h0 : b.data.toList ≠ [48]) (htab : Tab w) :
    Calls Tryd.prog 22 #[.string a, .string b, .func (.func 23) #[] #[]] w fun e w' => Ans w w' e (Int.tdiv (Pl.ival a.data.toList) (Pl.ival b.data.toList)) := by
  have h1 := pow_more (dvl_pow fa) (Nat.le_max_left a.size b.size)
  have h2 := pow_more (dvl_pow fb) (Nat.le_max_right a.size b.size)
  have hz : (Int.tdiv (Pl.ival a.data.toList) (Pl.ival b.data.toList)).natAbs < 1000000000 ^ (max a.size b.size) := by
    have e1 := natAbs_ival a.data.toList
    have e2 := natAbs_ival b.data.toList
    rw [Int.natAbs_tdiv, e1, e2]
    exact Nat.lt_of_le_of_lt (Nat.div_le_self _ _) h1
  have HW := Hid.mk (fun (u : World) (hu : Tab u) => w_two_over a b _ _ u ha hb fa fb hu hz (by omega) (fun u v1 v2 n1 n2 => w_over _ _ v1 v2 _ _ _ u n1 n2 h1 h2 (by omega) (dvl_pos fb h0)))
  have HC := Hid.mk (fun (u : World) => w_Formed a u (by unfold maxLen; omega))
  have hn : (b.toList == [48]) = false := by rw [Lib.toList_data]; simpa using h0
  have HF := Hid.mk fa
  have HT := Hid.mk htab
  clear h1 h2 hz fa fb htab h0
  go_enter Tryd.func22, Tryd.ntmps22
  go_wp2_with fail
  refine (HC.out _).mono ?_
  rintro e w0 ⟨rfl, hb0⟩
  rw [HF.out]
  have HB0 := Hid.mk hb0
  clear hb0
  go_wp2_with fail
  refine (HW.out _ (HT.out.keep HB0.out)).mono ?_
  rintro e w1 ⟨r, rfl, r1, r2, r3⟩
  have HR := Hid.mk (And.intro r1 (And.intro r2 (below_more HB0.out r3)))
  clear r1 r2 r3
  go_wp2_with fail
  go_ret2
  exact ⟨r, rfl, HR.out.1, HR.out.2.1, HR.out.2.2⟩

set_option maxRecDepth 100000 in
set_option maxHeartbeats 800000 in
theorem w_Div (a b : ByteArray) (w : World) (ha : a.size ≤ 4294967296) (hb : b.size ≤ 4294967296) (fa : Pl.formed a.data.toList = true) (fb : Pl.formed b.data.toList = true) (h0 : b.data.toList ≠ [48]) (htab : Tab w) :
    Calls Tryd.prog 11 #[.string a, .string b] w fun e w' => Ans w w' e (Int.tdiv (Pl.ival a.data.toList) (Pl.ival b.data.toList)) := by
  have HW := Hid.mk (w_overDiv a b w ha hb fa fb h0 htab)
  clear fa fb h0 htab
  go_enter Tryd.func11, Tryd.ntmps11
  go_wp2_with fail
  refine HW.out.mono ?_
  rintro e w1 ⟨r, rfl, r1, r2, r3⟩
  have HR := Hid.mk (And.intro r1 (And.intro r2 r3))
  clear r1 r2 r3
  go_wp2_with fail
  go_ret2
  exact ⟨r, rfl, HR.out.1, HR.out.2.1, HR.out.2.2⟩

set_option maxRecDepth 100000 in
set_option maxHeartbeats 800000 in
theorem w_overMod (a b : ByteArray) (w : World) (ha : a.size ≤ 4294967296) (hb : b.size ≤ 4294967296) (fa : Pl.formed a.data.toList = true) (fb : Pl.formed b.data.toList = true) (h0 : b.data.toList ≠ [48]) (htab : Tab w) :
    Calls Tryd.prog 22 #[.string a, .string b, .func (.func 24) #[] #[]] w fun e w' => Ans w w' e (Int.tmod (Pl.ival a.data.toList) (Pl.ival b.data.toList)) := by
  have h1 := pow_more (dvl_pow fa) (Nat.le_max_left a.size b.size)
  have h2 := pow_more (dvl_pow fb) (Nat.le_max_right a.size b.size)
  have hz : (Int.tmod (Pl.ival a.data.toList) (Pl.ival b.data.toList)).natAbs < 1000000000 ^ (max a.size b.size) := by
    have e1 := natAbs_ival a.data.toList
    have e2 := natAbs_ival b.data.toList
    rw [Int.natAbs_tmod, e1, e2]
    exact Nat.lt_of_le_of_lt (Nat.mod_le _ _) h1
  have HW := Hid.mk (fun (u : World) (hu : Tab u) => w_two_left a b _ _ u ha hb fa fb hu hz (by omega) (fun u v1 v2 n1 n2 => w_left _ _ v1 v2 _ _ _ u n1 n2 h1 h2 (by omega) (dvl_pos fb h0)))
  have HC := Hid.mk (fun (u : World) => w_Formed a u (by unfold maxLen; omega))
  have hn : (b.toList == [48]) = false := by rw [Lib.toList_data]; simpa using h0
  have HF := Hid.mk fa
  have HT := Hid.mk htab
  clear h1 h2 hz fa fb htab h0
  go_enter Tryd.func22, Tryd.ntmps22
  go_wp2_with fail
  refine (HC.out _).mono ?_
  rintro e w0 ⟨rfl, hb0⟩
  rw [HF.out]
  have HB0 := Hid.mk hb0
  clear hb0
  go_wp2_with fail
  refine (HW.out _ (HT.out.keep HB0.out)).mono ?_
  rintro e w1 ⟨r, rfl, r1, r2, r3⟩
  have HR := Hid.mk (And.intro r1 (And.intro r2 (below_more HB0.out r3)))
  clear r1 r2 r3
  go_wp2_with fail
  go_ret2
  exact ⟨r, rfl, HR.out.1, HR.out.2.1, HR.out.2.2⟩

set_option maxRecDepth 100000 in
set_option maxHeartbeats 800000 in
theorem w_Mod (a b : ByteArray) (w : World) (ha : a.size ≤ 4294967296) (hb : b.size ≤ 4294967296) (fa : Pl.formed a.data.toList = true) (fb : Pl.formed b.data.toList = true) (h0 : b.data.toList ≠ [48]) (htab : Tab w) :
    Calls Tryd.prog 12 #[.string a, .string b] w fun e w' => Ans w w' e (Int.tmod (Pl.ival a.data.toList) (Pl.ival b.data.toList)) := by
  have HW := Hid.mk (w_overMod a b w ha hb fa fb h0 htab)
  clear fa fb h0 htab
  go_enter Tryd.func12, Tryd.ntmps12
  go_wp2_with fail
  refine HW.out.mono ?_
  rintro e w1 ⟨r, rfl, r1, r2, r3⟩
  have HR := Hid.mk (And.intro r1 (And.intro r2 r3))
  clear r1 r2 r3
  go_wp2_with fail
  go_ret2
  exact ⟨r, rfl, HR.out.1, HR.out.2.1, HR.out.2.2⟩

end Go.Proofs.YtgnaeddpdomgkabDoor
