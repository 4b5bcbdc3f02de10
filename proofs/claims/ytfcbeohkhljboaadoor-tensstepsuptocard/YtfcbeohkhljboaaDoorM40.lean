import Derived.Test.YtfcbeohkhljboaaDoorM38
import Derived.Test.YtfcbeohkhljboaaDoorM39
namespace Go.Proofs.YtfcbeohkhljboaaDoor
open Go.RowKit
set_option linter.unusedVariables false
set_option linter.unusedSimpArgs false

set_option maxRecDepth 100000 in
set_option maxHeartbeats 800000 in
theorem w_Mul (a b : ByteArray) (w : World) (ha : a.size ≤ 4294967296) (hb : b.size ≤ 4294967296) (fa : Pl.formed a.data.toList = true) (fb : Pl.formed b.data.toList = true) (htab : Tab w) :
    Calls Tryd.prog 28 #[.string a, .string b] w fun e w' => Ans w w' e (Pl.ival a.data.toList * Pl.ival b.data.toList) := by
  have h1 := pow_more (dvl_pow fa) (Nat.le_max_left a.size b.size)
  have h2 := pow_more (dvl_pow fb) (Nat.le_max_right a.size b.size)
  have hz : (Pl.ival a.data.toList * Pl.ival b.data.toList).natAbs < 1000000000 ^ (a.size + b.size) := by
    rw [Int.natAbs_mul, natAbs_ival, natAbs_ival, Nat.pow_add]
    exact Nat.mul_lt_mul'' (dvl_pow fa) (dvl_pow fb)
  have HW := Hid.mk (w_two_times a b _ _ w ha hb fa fb htab hz (by omega) (fun u v1 v2 n1 n2 => w_times _ _ v1 v2 _ _ _ u n1 n2 h1 h2 (by omega)))
  clear h1 h2 hz
  go_enter Tryd.func28, Tryd.ntmps28
  go_wp2_with fail
  refine HW.out.mono ?_
  rintro e w1 ⟨r, rfl, r1, r2, r3⟩
  have HR := Hid.mk (And.intro r1 (And.intro r2 r3))
  clear r1 r2 r3
  go_wp2_with fail
  go_ret2
  exact ⟨r, rfl, HR.out.1, HR.out.2.1, HR.out.2.2⟩

/-- what the law's helper answers -/
def AnsL (w w' : World) (e : Ending) (z : Int) : Prop := ∃ r : ByteArray, e = .returned (.string r) ∧ Pl.formed r.data.toList = true ∧ Pl.ival r.data.toList = z ∧ Below w.heap.size w w'

set_option maxRecDepth 100000 in
set_option maxHeartbeats 800000 in
theorem w_lsum (a b : ByteArray) (w : World) (ha : a.size ≤ 4294967296) (hb : b.size ≤ 4294967296) (fa : Pl.formed a.data.toList = true) (fb : Pl.formed b.data.toList = true) (htab : Tab w) :
    Calls Tryd.prog 52 #[.string a, .string b] w fun e w' => AnsL w w' e (Pl.ival a.data.toList + Pl.ival b.data.toList) := by
  have HW := Hid.mk (w_Add a b w ha hb fa fb htab)
  clear fa fb htab
  go_enter Tryd.func52, Tryd.ntmps52
  go_wp2_with fail
  refine HW.out.mono ?_
  rintro e w1 ⟨r, rfl, r1, r2, r3⟩
  have HR := Hid.mk (And.intro r1 (And.intro r2 r3))
  clear r1 r2 r3
  go_wp2_with fail
  go_ret
  exact ⟨r, rfl, HR.out.1, HR.out.2.1, HR.out.2.2⟩

set_option maxRecDepth 100000 in
set_option maxHeartbeats 800000 in
theorem w_ldifference (a b : ByteArray) (w : World) (ha : a.size ≤ 4294967296) (hb : b.size ≤ 4294967296) (fa : Pl.formed a.data.toList = true) (fb : Pl.formed b.data.toList = true) (htab : Tab w) :
    Calls Tryd.prog 53 #[.string a, .string b] w fun e w' => AnsL w w' e (Pl.ival a.data.toList - Pl.ival b.data.toList) := by
  have HW := Hid.mk (w_Sub a b w ha hb fa fb htab)
  clear fa fb htab
  go_enter Tryd.func53, Tryd.ntmps53
  go_wp2_with fail
  refine HW.out.mono ?_
  rintro e w1 ⟨r, rfl, r1, r2, r3⟩
  have HR := Hid.mk (And.intro r1 (And.intro r2 r3))
  clear r1 r2 r3
  go_wp2_with fail
  go_ret
  exact ⟨r, rfl, HR.out.1, HR.out.2.1, HR.out.2.2⟩

set_option maxRecDepth 100000 in
set_option maxHeartbeats 800000 in
theorem w_lproduct (a b : ByteArray) (w : World) (ha : a.size ≤ 4294967296) (hb : b.size ≤ 4294967296) (fa : Pl.formed a.data.toList = true) (fb : Pl.formed b.data.toList = true) (htab : Tab w) :
    Calls Tryd.prog 54 #[.string a, .string b] w fun e w' => AnsL w w' e (Pl.ival a.data.toList * Pl.ival b.data.toList) := by
  have HW := Hid.mk (w_Mul a b w ha hb fa fb htab)
  clear fa fb htab
  go_enter Tryd.func54, Tryd.ntmps54
  go_wp2_with fail
  refine HW.out.mono ?_
  rintro e w1 ⟨r, rfl, r1, r2, r3⟩
  have HR := Hid.mk (And.intro r1 (And.intro r2 r3))
  clear r1 r2 r3
  go_wp2_with fail
  go_ret
  exact ⟨r, rfl, HR.out.1, HR.out.2.1, HR.out.2.2⟩

end Go.Proofs.YtfcbeohkhljboaaDoor
namespace Go.Proofs.YtfcbeohkhljboaaDoor
open Go.RowKit
set_option linter.unusedVariables false
set_option linter.unusedSimpArgs false

/-- the refusal of what is no number -/
def Shape (w w' : World) (e : Ending) : Prop := e = .returned (.tuple #[.string ⟨#[]⟩, .int .i64 1]) ∧ Below w.heap.size w w'

set_option maxRecDepth 100000 in
set_option maxHeartbeats 800000 in
theorem w_one_bad (a : ByteArray) (fn : Nat) (w : World) (ha : a.size ≤ 4294967296) (hbad : Pl.formed a.data.toList = false) :
    Calls Tryd.prog 41 #[.string a, .func (.func fn) #[] #[]] w fun e w' => Shape w w' e := by
  have HRa := Hid.mk (fun (u : World) => w_tread_not a u (by unfold maxLen; omega) hbad)
  clear hbad
  go_enter Tryd.func41, Tryd.ntmps41
  go_wp2_with fail
  refine (HRa.out _).mono ?_
  rintro e w1 ⟨rfl, hb1⟩
  have HB1 := Hid.mk (below_more hb1 (below1 w1 (.cells #[.bool false, .slice none 0 0] 58)))
  clear hb1
  go_wp2_with fail
  go_ret2
  exact ⟨rfl, HB1.out⟩

set_option maxRecDepth 100000 in
set_option maxHeartbeats 800000 in
theorem w_Root_bad (a : ByteArray) (w : World) (ha : a.size ≤ 4294967296) (hbad : Pl.formed a.data.toList = false) :
    Calls Tryd.prog 21 #[.string a] w fun e w' => Shape w w' e := by
  have HRa := Hid.mk (fun (u : World) => w_tread_not a u (by unfold maxLen; omega) hbad)
  clear hbad
  go_enter Tryd.func21, Tryd.ntmps21
  go_wp2_with fail
  refine (HRa.out _).mono ?_
  rintro e w1 ⟨rfl, hb1⟩
  have HB1 := Hid.mk (below_more hb1 (below1 w1 (.cells #[.bool false, .slice none 0 0] 58)))
  clear hb1
  go_wp2_with fail
  go_ret2
  exact ⟨rfl, HB1.out⟩

set_option maxRecDepth 100000 in
set_option maxHeartbeats 800000 in
theorem w_over_bad (a b : ByteArray) (fn : Nat) (w : World) (ha : a.size ≤ 4294967296) (hb : b.size ≤ 4294967296) (hbad : (Pl.formed a.data.toList && Pl.formed b.data.toList) = false) :
    Calls Tryd.prog 60 #[.string a, .string b, .func (.func fn) #[] #[]] w fun e w' => Shape w w' e := by
  have HW := Hid.mk (fun (u : World) => w_two_bad a b fn u ha hb hbad)
  have HC := Hid.mk (fun (u : World) => w_Formed a u (by unfold maxLen; omega))
  have hq : Pl.formed a.data.toList = true → (b.toList == [48]) = false := by
    intro h
    rw [h, Bool.true_and] at hbad
    rw [Lib.toList_data, beq_eq_false_iff_ne]
    intro e
    rw [e] at hbad
    cases hbad
  clear hbad
  generalize Pl.formed a.data.toList = fa at *
  cases fa
  · clear hq
    go_enter Tryd.func60, Tryd.ntmps60
    go_wp2_with fail
    refine (HC.out _).mono ?_
    rintro e w0 ⟨rfl, hb0⟩
    have HB0 := Hid.mk hb0
    clear hb0
    go_wp2_with fail
    refine (HW.out _).mono ?_
    rintro e w1 ⟨rfl, r3⟩
    have HR := Hid.mk (below_more HB0.out r3)
    clear r3
    go_wp2_with fail
    go_ret2
    exact ⟨rfl, HR.out⟩
  · have hn := hq rfl
    clear hq
    go_enter Tryd.func60, Tryd.ntmps60
    go_wp2_with fail
    refine (HC.out _).mono ?_
    rintro e w0 ⟨rfl, hb0⟩
    have HB0 := Hid.mk hb0
    clear hb0
    go_wp2_with fail
    refine (HW.out _).mono ?_
    rintro e w1 ⟨rfl, r3⟩
    have HR := Hid.mk (below_more HB0.out r3)
    clear r3
    go_wp2_with fail
    go_ret2
    exact ⟨rfl, HR.out⟩

set_option maxRecDepth 100000 in
set_option maxHeartbeats 800000 in
theorem w_Add_no (a b : ByteArray) (w : World) (ha : a.size ≤ 4294967296) (hb : b.size ≤ 4294967296) (hbad : (Pl.formed a.data.toList && Pl.formed b.data.toList) = false) :
    Calls Tryd.prog 24 #[.string a, .string b] w fun e w' => Shape w w' e := by
  have HW := Hid.mk (fun (fn : Nat) => w_two_bad a b fn w ha hb hbad)
  clear hbad
  go_enter Tryd.func24, Tryd.ntmps24
  go_wp2_with fail
  refine (HW.out _).mono ?_
  rintro e w1 ⟨rfl, r3⟩
  have HR := Hid.mk r3
  clear r3
  go_wp2_with fail
  go_ret2
  exact ⟨rfl, HR.out⟩

set_option maxRecDepth 100000 in
set_option maxHeartbeats 800000 in
theorem w_Sub_no (a b : ByteArray) (w : World) (ha : a.size ≤ 4294967296) (hb : b.size ≤ 4294967296) (hbad : (Pl.formed a.data.toList && Pl.formed b.data.toList) = false) :
    Calls Tryd.prog 26 #[.string a, .string b] w fun e w' => Shape w w' e := by
  have HW := Hid.mk (fun (fn : Nat) => w_two_bad a b fn w ha hb hbad)
  clear hbad
  go_enter Tryd.func26, Tryd.ntmps26
  go_wp2_with fail
  refine (HW.out _).mono ?_
  rintro e w1 ⟨rfl, r3⟩
  have HR := Hid.mk r3
  clear r3
  go_wp2_with fail
  go_ret2
  exact ⟨rfl, HR.out⟩

set_option maxRecDepth 100000 in
set_option maxHeartbeats 800000 in
theorem w_Mul_no (a b : ByteArray) (w : World) (ha : a.size ≤ 4294967296) (hb : b.size ≤ 4294967296) (hbad : (Pl.formed a.data.toList && Pl.formed b.data.toList) = false) :
    Calls Tryd.prog 28 #[.string a, .string b] w fun e w' => Shape w w' e := by
  have HW := Hid.mk (fun (fn : Nat) => w_two_bad a b fn w ha hb hbad)
  clear hbad
  go_enter Tryd.func28, Tryd.ntmps28
  go_wp2_with fail
  refine (HW.out _).mono ?_
  rintro e w1 ⟨rfl, r3⟩
  have HR := Hid.mk r3
  clear r3
  go_wp2_with fail
  go_ret2
  exact ⟨rfl, HR.out⟩

set_option maxRecDepth 100000 in
set_option maxHeartbeats 800000 in
theorem w_Div_no (a b : ByteArray) (w : World) (ha : a.size ≤ 4294967296) (hb : b.size ≤ 4294967296) (hbad : (Pl.formed a.data.toList && Pl.formed b.data.toList) = false) :
    Calls Tryd.prog 30 #[.string a, .string b] w fun e w' => Shape w w' e := by
  have HW := Hid.mk (fun (fn : Nat) => w_over_bad a b fn w ha hb hbad)
  clear hbad
  go_enter Tryd.func30, Tryd.ntmps30
  go_wp2_with fail
  refine (HW.out _).mono ?_
  rintro e w1 ⟨rfl, r3⟩
  have HR := Hid.mk r3
  clear r3
  go_wp2_with fail
  go_ret2
  exact ⟨rfl, HR.out⟩

set_option maxRecDepth 100000 in
set_option maxHeartbeats 800000 in
theorem w_Mod_no (a b : ByteArray) (w : World) (ha : a.size ≤ 4294967296) (hb : b.size ≤ 4294967296) (hbad : (Pl.formed a.data.toList && Pl.formed b.data.toList) = false) :
    Calls Tryd.prog 32 #[.string a, .string b] w fun e w' => Shape w w' e := by
  have HW := Hid.mk (fun (fn : Nat) => w_over_bad a b fn w ha hb hbad)
  clear hbad
  go_enter Tryd.func32, Tryd.ntmps32
  go_wp2_with fail
  refine (HW.out _).mono ?_
  rintro e w1 ⟨rfl, r3⟩
  have HR := Hid.mk r3
  clear r3
  go_wp2_with fail
  go_ret2
  exact ⟨rfl, HR.out⟩

set_option maxRecDepth 100000 in
set_option maxHeartbeats 800000 in
theorem w_Abs_no (a : ByteArray) (w : World) (ha : a.size ≤ 4294967296) (hbad : Pl.formed a.data.toList = false) :
    Calls Tryd.prog 19 #[.string a] w fun e w' => Shape w w' e := by
  have HW := Hid.mk (fun (fn : Nat) => w_one_bad a fn w ha hbad)
  clear hbad
  go_enter Tryd.func19, Tryd.ntmps19
  go_wp2_with fail
  refine (HW.out _).mono ?_
  rintro e w1 ⟨rfl, r3⟩
  have HR := Hid.mk r3
  clear r3
  go_wp2_with fail
  go_ret2
  exact ⟨rfl, HR.out⟩

set_option maxRecDepth 100000 in
set_option maxHeartbeats 1600000 in
theorem w_one_negated (a : ByteArray) (w : World) (ha : a.size ≤ 4294967296) (fa : Pl.formed a.data.toList = true) (htab : Tab w) :
    Calls Tryd.prog 41 #[.string a, .func (.func 42) #[] #[]] w fun e w' => Ans w w' e (-(Pl.ival a.data.toList)) := by
  have HRa := Hid.mk (fun (u : World) => w_treadV a u ha fa)
  have HT := Hid.mk htab
  have HX := Hid.mk (dvl_pow fa)
  have HE := Hid.mk (sgn_ival a.data.toList)
  generalize Pl.neg a.data.toList = b1 at *
  generalize Pl.dvl (Pl.body a.data.toList) = x1 at *
  clear htab fa
  go_enter Tryd.func41, Tryd.ntmps41
  go_wp2_with fail
  refine (HRa.out _).mono ?_
  rintro e w1 ⟨ao, an, ac, rfl, HN1, hb1⟩
  have HB1 := Hid.mk hb1
  clear hb1
  go_wp2_with fail
  refine (w_negated b1 _ x1 _ (HN1.out.keep (below1 w1 _))).mono ?_
  rintro e w3 ⟨rfl, hb3⟩
  have HN3 := Hid.mk ((HN1.out.keep (below1 w1 _)).keep hb3)
  have HB3 := Hid.mk (below_more (below_more HB1.out (below1 w1 _)) hb3)
  clear hb3
  go_wp2_with fail
  refine (w_textV (!b1) _ x1 a.size w3 HN3.out HX.out (by omega) (HT.out.keep HB3.out)).mono ?_
  rintro e w4 ⟨r, rfl, HR, hb4⟩
  have HB4 := Hid.mk (below_more HB3.out hb4)
  clear hb4
  go_wp2_with fail
  go_ret2
  exact ⟨r, rfl, HR.out.1, by rw [HR.out.2, ← HE.out]; cases b1 <;> simp [sgn], HB4.out⟩
end Go.Proofs.YtfcbeohkhljboaaDoor
