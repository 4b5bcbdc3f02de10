import Derived.Test.YtgnaeddpdomgkabDoorKnown
import Derived.Test.YtgnaeddpdomgkabDoorThree
import Derived.Test.YtgnaeddpdomgkabDoorRoots
namespace Go.Proofs.YtgnaeddpdomgkabDoor
open Go.RowKit
set_option linter.unusedVariables false
set_option linter.unusedSimpArgs false

set_option maxRecDepth 100000 in
set_option maxHeartbeats 1600000 in
theorem w_Divides_bad (a b : ByteArray) (w : World) (ha : a.size ≤ 1048576) (hb : b.size ≤ 1048576) (htab : Tab w) (hf : (Pl.formed a.data.toList && Pl.formed b.data.toList && !(b.toList == [48])) = false) :
    Calls Tryd.prog 6 #[.string a, .string b] w fun e w' => e = .returned (.bool true) ∧ Below w.heap.size w w' := by
  have HT := Hid.mk htab
  have HA := Hid.mk (fun (u : World) => w_rFormed a u (by unfold maxLen; omega))
  have HB := Hid.mk (fun (u : World) => w_rFormed b u (by unfold maxLen; omega))
  clear htab
  generalize Pl.formed a.data.toList = fa at *
  generalize Pl.formed b.data.toList = fb at *
  go_enter Tryd.func6, Tryd.ntmps6
  go_wp2_with fail
  refine (w_Known _ HT.out).mono ?_
  rintro e w1 ⟨rfl, hb1⟩
  have HB1 := Hid.mk hb1
  clear hb1
  go_wp2_with fail
  refine (HA.out _).mono ?_
  rintro e w2 ⟨rfl, rfl⟩
  cases fa
  · go_wp2_with fail
    go_ret
    exact ⟨rfl, HB1.out⟩
  · go_wp2_with fail
    refine (HB.out _).mono ?_
    rintro e w3 ⟨rfl, rfl⟩
    cases fb
    · go_wp2_with fail
      go_ret
      exact ⟨rfl, HB1.out⟩
    · have h0 : (b.toList == [48]) = true := by simpa using hf
      clear hf
      go_wp2_with fail
      go_ret
      exact ⟨rfl, HB1.out⟩

theorem tdiv_abs_le (x y : Int) : (Int.tdiv x y).natAbs ≤ x.natAbs := by rw [Int.natAbs_tdiv]; exact Nat.div_le_self _ _
theorem tmod_abs_le (x y : Int) : (Int.tmod x y).natAbs ≤ x.natAbs := by rw [Int.natAbs_tmod]; exact Nat.mod_le _ _

/-- the rest's sign -/
theorem rest_sign {a m : ByteArray} {y : Int} (fa : Pl.formed a.data.toList = true) (fm : Pl.formed m.data.toList = true) (hm : Pl.ival m.data.toList = Int.tmod (Pl.ival a.data.toList) y) (h0 : m.data.toList ≠ [48]) : Pl.neg m.data.toList = Pl.neg a.data.toList := by
  have hz : Pl.ival m.data.toList ≠ 0 := by
    have := dvl_pos fm h0
    unfold Pl.ival; split <;> omega
  have e1 : sgn (Pl.neg a.data.toList) (Pl.dvl (Pl.body a.data.toList) % y.natAbs) = Pl.ival m.data.toList := by
    rw [hm, ← sgn_ival a.data.toList]
    rcases Int.natAbs_eq y with e | e
    · have := sgn_mod (Pl.neg a.data.toList) false (Pl.dvl (Pl.body a.data.toList)) y.natAbs
      rw [this]; simp only [sgn, Bool.false_eq_true, if_false]; rw [← e]
    · have := sgn_mod (Pl.neg a.data.toList) true (Pl.dvl (Pl.body a.data.toList)) y.natAbs
      rw [this]; simp only [sgn, if_true]; rw [← e]
  have e2 := sgn_ival m.data.toList
  have hp := dvl_pos fm h0
  rw [← e2] at e1
  revert e1
  cases Pl.neg a.data.toList <;> cases Pl.neg m.data.toList <;> intro e1 <;> simp only [sgn, Bool.false_eq_true, if_true, if_false] at e1 ⊢ <;> omega

set_option maxRecDepth 100000 in
set_option maxHeartbeats 6400000 in
theorem w_Divides_at (a b : ByteArray) (w : World) (ha : a.size ≤ 1048576) (hb : b.size ≤ 1048576) (htab : Tab w) (fa : Pl.formed a.data.toList = true) (fb : Pl.formed b.data.toList = true) (hn : (b.toList == [48]) = false) :
    Calls Tryd.prog 6 #[.string a, .string b] w fun e w' => e = .returned (.bool true) ∧ Below w.heap.size w w' := by
  have HT := Hid.mk htab
  have HA := Hid.mk (fun (u : World) => w_rFormed a u (by unfold maxLen; omega))
  have HB := Hid.mk (fun (u : World) => w_rFormed b u (by unfold maxLen; omega))
  have FA := Hid.mk fa
  have FB := Hid.mk fb
  have H0 : Hid (b.data.toList ≠ [48]) := by
    rw [Lib.toList_data] at hn
    exact (beq_eq_false_iff_ne.1 hn)
  rw [fa] at HA
  rw [fb] at HB
  clear htab fa fb
  go_enter Tryd.func6, Tryd.ntmps6
  go_wp2_with fail
  refine (w_Known _ HT.out).mono ?_
  rintro e w1 ⟨rfl, hb1⟩
  have HB1 := Hid.mk hb1
  clear hb1
  go_wp2_with fail
  refine (HA.out _).mono ?_
  rintro e w2 ⟨rfl, rfl⟩
  go_wp2_with fail
  refine (HB.out _).mono ?_
  rintro e w3 ⟨rfl, rfl⟩
  go_wp2_with fail
  refine (w_Div a b _ (by omega) (by omega) FA.out FB.out H0.out (HT.out.keep HB1.out)).mono ?_
  rintro e w4 ⟨q, rfl, q1, q2, q3⟩
  have HB4 := Hid.mk (below_more HB1.out q3)
  have hqs : q.size ≤ 1048577 := abs_size FA.out q1 (by rw [q2]; exact tdiv_abs_le _ _) ha
  have HQ := Hid.mk (And.intro q1 q2)
  clear q1 q2 q3
  go_wp2_with fail
  refine (w_Mod a b _ (by omega) (by omega) FA.out FB.out H0.out (HT.out.keep HB4.out)).mono ?_
  rintro e w5 ⟨m, rfl, m1, m2, m3⟩
  have HB5 := Hid.mk (below_more HB4.out m3)
  have hms : m.size ≤ 1048577 := abs_size FA.out m1 (by rw [m2]; exact tmod_abs_le _ _) ha
  have HM := Hid.mk (And.intro m1 m2)
  have hmp := formed_size m1
  clear m1 m2 m3
  go_wp2_with fail
  refine (w_lproduct q b _ (by omega) (by omega) HQ.out.1 FB.out (HT.out.keep HB5.out)).mono ?_
  rintro e w6 ⟨p, rfl, p1, p2, p3⟩
  have HB6 := Hid.mk (below_more HB5.out p3)
  have hps : p.size ≤ 1048577 + 1048576 + 1 := mul_size HQ.out.1 FB.out p1 p2 hqs hb
  have HP := Hid.mk (And.intro p1 p2)
  clear p1 p2 p3
  go_wp2_with fail
  refine (w_lsum p m _ (by omega) (by omega) HP.out.1 HM.out.1 (HT.out.keep HB6.out)).mono ?_
  rintro e w7 ⟨s, rfl, s1, s2, s3⟩
  have HB7 := Hid.mk (below_more HB6.out s3)
  have hsa : s = a := text_inj s1 FA.out (by
    rw [s2, HP.out.2, HQ.out.2, HM.out.2, Int.mul_comm]
    exact Int.mul_tdiv_add_tmod _ _)
  subst hsa
  clear s1 s2 s3
  go_wp2_with fail
  refine (w_Abs m _ (by omega) HM.out.1 (HT.out.keep HB7.out)).mono ?_
  rintro e w8 ⟨x, rfl, x1, x2, x3⟩
  have HB8 := Hid.mk (below_more HB7.out x3)
  have hxs : x.size ≤ 1048578 := abs_size HM.out.1 x1 (by rw [x2]; omega) hms
  have HX := Hid.mk (And.intro x1 x2)
  clear x1 x2 x3
  go_wp2_with fail
  refine (w_Abs b _ (by omega) FB.out (HT.out.keep HB8.out)).mono ?_
  rintro e w9 ⟨y, rfl, y1, y2, y3⟩
  have HB9 := Hid.mk (below_more HB8.out y3)
  have hys : y.size ≤ 1048577 := abs_size FB.out y1 (by rw [y2]; omega) hb
  have HY := Hid.mk (And.intro y1 y2)
  clear y1 y2 y3
  have H6 : Hid (∀ (u : World), Calls Tryd.prog 17 #[.string x, .string y] u fun e w' => e = .returned (.tuple #[.int .i64 (-1), .int .i64 0]) ∧ Below u.heap.size u w') := by
    intro u
    refine (w_CmpF x y u (by omega) (by omega) HX.out.1 HY.out.1).mono ?_
    rintro e w' ⟨rfl, h⟩
    refine ⟨?_, h⟩
    have hp := dvl_pos FB.out H0.out
    have e2 : Pl.cmpI (Pl.ival x.data.toList) (Pl.ival y.data.toList) = -1 := by
      rw [HX.out.2, HY.out.2, HM.out.2, Int.natAbs_tmod, natAbs_ival b.data.toList]
      unfold Pl.cmpI
      have := Nat.mod_lt (Pl.ival s.data.toList).natAbs hp
      rw [if_pos (by omega)]
    rw [e2]
  go_wp2_with fail
  refine (H6.out _).mono ?_
  rintro e w10 ⟨rfl, hb10⟩
  have HB10 := Hid.mk (below_more HB9.out hb10)
  clear hb10
  have hsp := formed_size FA.out
  have hf1 := first_neg hmp
  have hf2 := first_neg hsp
  cases hm0 : (m.toList == [48]) with
  | true =>
    clear hf1 hf2
    go_wp2_with fail
    go_quiet (fail)
    go_wp2_with fail
    go_ret
    exact ⟨rfl, below_drewN HB10.out _⟩
  | false =>
    have hsg : Pl.neg m.data.toList = Pl.neg s.data.toList := rest_sign FA.out HM.out.1 HM.out.2 (by
      rw [Lib.toList_data] at hm0
      exact (beq_eq_false_iff_ne.1 hm0))
    rw [hsg] at hf1
    generalize Pl.neg s.data.toList = ng at hf1 hf2
    clear hsg
    cases ng
    · go_wp2_with fail
      go_quiet (fail)
      go_wp2_with fail
      go_ret
      exact ⟨rfl, below_drewN HB10.out _⟩
    · go_wp2_with fail
      go_quiet (fail)
      go_wp2_with fail
      go_ret
      exact ⟨rfl, below_drewN HB10.out _⟩

theorem w_Divides (a b : ByteArray) (w : World) (ha : a.size ≤ 1048576) (hb : b.size ≤ 1048576) (htab : Tab w) :
    Calls Tryd.prog 6 #[.string a, .string b] w fun e w' => e = .returned (.bool true) ∧ Below w.heap.size w w' := by
  cases hf : (Pl.formed a.data.toList && Pl.formed b.data.toList && !(b.toList == [48])) with
  | false => exact w_Divides_bad a b w ha hb htab hf
  | true =>
    simp only [Bool.and_eq_true, Bool.not_eq_true'] at hf
    exact w_Divides_at a b w ha hb htab hf.1.1 hf.1.2 hf.2
end Go.Proofs.YtgnaeddpdomgkabDoor
