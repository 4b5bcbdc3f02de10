import Derived.Test.YtgnaeddpdomgkabDoorKnown
import Derived.Test.YtgnaeddpdomgkabDoorThree
namespace Go.Proofs.YtgnaeddpdomgkabDoor
open Go.RowKit
set_option linter.unusedVariables false
set_option linter.unusedSimpArgs false

set_option maxRecDepth 100000 in
set_option maxHeartbeats 1600000 in
theorem w_Ring_not (a b c : ByteArray) (w : World) (ha : a.size ≤ 1048576) (hb : b.size ≤ 1048576) (hc : c.size ≤ 1048576) (htab : Tab w) (hf : (Pl.formed a.data.toList && Pl.formed b.data.toList && Pl.formed c.data.toList) = false) :
    Calls Tryd.prog 4 #[.string a, .string b, .string c] w fun e w' => e = .returned (.bool true) ∧ Below w.heap.size w w' := by
  have HT := Hid.mk htab
  have H3 := Hid.mk (fun (u : World) => w_three a b c u (by omega) (by omega) (by omega))
  have HF := Hid.mk hf
  clear htab hf
  go_enter Tryd.func4, Tryd.ntmps4
  go_wp2_with fail
  refine (w_Known _ HT.out).mono ?_
  rintro e w1 ⟨rfl, hb1⟩
  have HB1 := Hid.mk hb1
  clear hb1
  go_wp2_with fail
  refine (H3.out _).mono ?_
  rintro e w2 ⟨rfl, hb2⟩
  rw [HF.out]
  have HB2 := Hid.mk (below_more HB1.out hb2)
  clear hb2
  go_wp2_with fail
  go_ret
  exact ⟨rfl, HB2.out⟩

/-- a helper's answer with its length -/
theorem r_sum (a b : ByteArray) (K : Nat) (w : World) (fa : Pl.formed a.data.toList = true) (fb : Pl.formed b.data.toList = true) (ha : a.size ≤ K) (hb : b.size ≤ K) (hK : K ≤ 1073741824) (hu : Tab w) :
    Calls Tryd.prog 8 #[.string a, .string b] w fun e w' => ∃ r : ByteArray, e = .returned (.string r) ∧ Hid (Pl.formed r.data.toList = true ∧ Pl.ival r.data.toList = Pl.ival a.data.toList + Pl.ival b.data.toList ∧ r.size ≤ K + 2) ∧ Below w.heap.size w w' := by
  refine (w_lsum a b w (by omega) (by omega) fa fb hu).mono ?_
  rintro e w' ⟨r, rfl, r1, r2, r3⟩
  exact ⟨r, rfl, ⟨r1, r2, add_size fa fb r1 r2 ha hb⟩, r3⟩
theorem r_difference (a b : ByteArray) (K : Nat) (w : World) (fa : Pl.formed a.data.toList = true) (fb : Pl.formed b.data.toList = true) (ha : a.size ≤ K) (hb : b.size ≤ K) (hK : K ≤ 1073741824) (hu : Tab w) :
    Calls Tryd.prog 9 #[.string a, .string b] w fun e w' => ∃ r : ByteArray, e = .returned (.string r) ∧ Hid (Pl.formed r.data.toList = true ∧ Pl.ival r.data.toList = Pl.ival a.data.toList - Pl.ival b.data.toList ∧ r.size ≤ K + 2) ∧ Below w.heap.size w w' := by
  refine (w_ldifference a b w (by omega) (by omega) fa fb hu).mono ?_
  rintro e w' ⟨r, rfl, r1, r2, r3⟩
  exact ⟨r, rfl, ⟨r1, r2, sub_size fa fb r1 r2 ha hb⟩, r3⟩
theorem r_product (a b : ByteArray) (K : Nat) (w : World) (fa : Pl.formed a.data.toList = true) (fb : Pl.formed b.data.toList = true) (ha : a.size ≤ K) (hb : b.size ≤ K) (hK : K ≤ 1073741824) (hu : Tab w) :
    Calls Tryd.prog 10 #[.string a, .string b] w fun e w' => ∃ r : ByteArray, e = .returned (.string r) ∧ Hid (Pl.formed r.data.toList = true ∧ Pl.ival r.data.toList = Pl.ival a.data.toList * Pl.ival b.data.toList ∧ r.size ≤ K + K + 1) ∧ Below w.heap.size w w' := by
  refine (w_lproduct a b w (by omega) (by omega) fa fb hu).mono ?_
  rintro e w' ⟨r, rfl, r1, r2, r3⟩
  exact ⟨r, rfl, ⟨r1, r2, mul_size fa fb r1 r2 ha hb⟩, r3⟩
theorem r_formed (a : ByteArray) (w : World) (fa : Pl.formed a.data.toList = true) (ha : a.size ≤ 1073741824) :
    Calls Tryd.prog 15 #[.string a] w fun e w' => e = .returned (.bool true) ∧ Below w.heap.size w w' := by
  have := w_Formed a w (by unfold maxLen; omega)
  rw [fa] at this
  exact this

set_option maxRecDepth 100000 in
set_option maxHeartbeats 6400000 in
theorem w_Ring_at (a b c : ByteArray) (w : World) (ha : a.size ≤ 1048576) (hb : b.size ≤ 1048576) (hc : c.size ≤ 1048576) (htab : Tab w) (fa : Pl.formed a.data.toList = true) (fb : Pl.formed b.data.toList = true) (fc : Pl.formed c.data.toList = true) :
    Calls Tryd.prog 4 #[.string a, .string b, .string c] w fun e w' => e = .returned (.bool true) ∧ Below w.heap.size w w' := by
  have HT := Hid.mk htab
  have H3 : Hid (∀ (u : World), Calls Tryd.prog 16 #[.string a, .string b, .string c] u fun e w' => e = .returned (.bool true) ∧ Below u.heap.size u w') := by
    intro u
    have := w_three a b c u (by omega) (by omega) (by omega)
    rw [fa, fb, fc] at this
    exact this
  have FA := Hid.mk fa
  have FB := Hid.mk fb
  have FC := Hid.mk fc
  have F0 : Hid (Pl.formed (ByteArray.mk #[48]).data.toList = true) := by show _ = _; decide
  have F1 : Hid (Pl.formed (ByteArray.mk #[49]).data.toList = true) := by show _ = _; decide
  have h0s : (ByteArray.mk #[48]).size ≤ 1048576 := by decide
  have h1s : (ByteArray.mk #[49]).size ≤ 1048576 := by decide
  clear htab fa fb fc
  go_enter Tryd.func4, Tryd.ntmps4
  go_wp2_with fail
  refine (w_Known _ HT.out).mono ?_
  rintro e w1 ⟨rfl, hb1⟩
  have HB1 := Hid.mk hb1
  clear hb1
  go_wp2_with fail
  refine (H3.out _).mono ?_
  rintro e w2 ⟨rfl, hb2⟩
  have HB2 := Hid.mk (below_more HB1.out hb2)
  clear hb2
  go_wp2_with fail
  refine (r_sum a b 1048576 _ FA.out FB.out (by omega) (by omega) (by omega) (HT.out.keep HB2.out)).mono ?_
  rintro e w3 ⟨s, rfl, Hs, hb3⟩
  have HB3 := Hid.mk (below_more HB2.out hb3)
  clear hb3
  have hss : s.size ≤ 1048578 := Hs.out.2.2
  go_wp2_with fail
  refine (r_product a b 1048576 _ FA.out FB.out (by omega) (by omega) (by omega) (HT.out.keep HB3.out)).mono ?_
  rintro e w4 ⟨p, rfl, Hp, hb4⟩
  have HB4 := Hid.mk (below_more HB3.out hb4)
  clear hb4
  have hps : p.size ≤ 2097153 := Hp.out.2.2
  go_wp2_with fail
  refine (r_formed s _ Hs.out.1 (by omega)).mono ?_
  rintro e w5 ⟨rfl, hb5⟩
  have HB5 := Hid.mk (below_more HB4.out hb5)
  clear hb5
  go_wp2_with fail
  refine (r_formed p _ Hp.out.1 (by omega)).mono ?_
  rintro e w6 ⟨rfl, hb6⟩
  have HB6 := Hid.mk (below_more HB5.out hb6)
  clear hb6
  go_wp2_with fail
  refine (r_sum b a 1048576 _ FB.out FA.out (by omega) (by omega) (by omega) (HT.out.keep HB6.out)).mono ?_
  rintro e w7 ⟨r1, rfl, Hr1, hb7⟩
  have HB7 := Hid.mk (below_more HB6.out hb7)
  clear hb7
  have er1 : s = r1 := (text_inj Hr1.out.1 Hs.out.1 (by rw [Hr1.out.2.1, Hs.out.2.1, Int.add_comm])).symm
  clear Hr1
  subst er1
  go_wp2_with fail
  refine (r_product b a 1048576 _ FB.out FA.out (by omega) (by omega) (by omega) (HT.out.keep HB7.out)).mono ?_
  rintro e w8 ⟨r2, rfl, Hr2, hb8⟩
  have HB8 := Hid.mk (below_more HB7.out hb8)
  clear hb8
  have er2 : p = r2 := (text_inj Hr2.out.1 Hp.out.1 (by rw [Hr2.out.2.1, Hp.out.2.1, Int.mul_comm])).symm
  clear Hr2
  subst er2
  go_wp2_with fail
  refine (r_sum s c 1048578 _ Hs.out.1 FC.out (by omega) (by omega) (by omega) (HT.out.keep HB8.out)).mono ?_
  rintro e w9 ⟨t, rfl, Ht, hb9⟩
  have HB9 := Hid.mk (below_more HB8.out hb9)
  clear hb9
  have hts : t.size ≤ 1048580 := Ht.out.2.2
  go_wp2_with fail
  refine (r_sum b c 1048576 _ FB.out FC.out (by omega) (by omega) (by omega) (HT.out.keep HB9.out)).mono ?_
  rintro e w10 ⟨u, rfl, Hu, hb10⟩
  have HB10 := Hid.mk (below_more HB9.out hb10)
  clear hb10
  have hus : u.size ≤ 1048578 := Hu.out.2.2
  go_wp2_with fail
  refine (r_sum a u 1048578 _ FA.out Hu.out.1 (by omega) (by omega) (by omega) (HT.out.keep HB10.out)).mono ?_
  rintro e w11 ⟨r3, rfl, Hr3, hb11⟩
  have HB11 := Hid.mk (below_more HB10.out hb11)
  clear hb11
  have er3 : t = r3 := (text_inj Hr3.out.1 Ht.out.1 (by rw [Hr3.out.2.1, Hu.out.2.1, Ht.out.2.1, Hs.out.2.1, Int.add_assoc])).symm
  clear Hr3
  subst er3
  go_wp2_with fail
  refine (r_product p c 2097153 _ Hp.out.1 FC.out (by omega) (by omega) (by omega) (HT.out.keep HB11.out)).mono ?_
  rintro e w12 ⟨v, rfl, Hv, hb12⟩
  have HB12 := Hid.mk (below_more HB11.out hb12)
  clear hb12
  have hvs : v.size ≤ 4194307 := Hv.out.2.2
  go_wp2_with fail
  refine (r_product b c 1048576 _ FB.out FC.out (by omega) (by omega) (by omega) (HT.out.keep HB12.out)).mono ?_
  rintro e w13 ⟨x, rfl, Hx, hb13⟩
  have HB13 := Hid.mk (below_more HB12.out hb13)
  clear hb13
  have hxs : x.size ≤ 2097153 := Hx.out.2.2
  go_wp2_with fail
  refine (r_product a x 2097153 _ FA.out Hx.out.1 (by omega) (by omega) (by omega) (HT.out.keep HB13.out)).mono ?_
  rintro e w14 ⟨r4, rfl, Hr4, hb14⟩
  have HB14 := Hid.mk (below_more HB13.out hb14)
  clear hb14
  have er4 : v = r4 := (text_inj Hr4.out.1 Hv.out.1 (by rw [Hr4.out.2.1, Hx.out.2.1, Hv.out.2.1, Hp.out.2.1, Int.mul_assoc])).symm
  clear Hr4
  subst er4
  go_wp2_with fail
  refine (r_product s c 1048578 _ Hs.out.1 FC.out (by omega) (by omega) (by omega) (HT.out.keep HB14.out)).mono ?_
  rintro e w15 ⟨y, rfl, Hy, hb15⟩
  have HB15 := Hid.mk (below_more HB14.out hb15)
  clear hb15
  have hys : y.size ≤ 2097157 := Hy.out.2.2
  go_wp2_with fail
  refine (r_product a c 1048576 _ FA.out FC.out (by omega) (by omega) (by omega) (HT.out.keep HB15.out)).mono ?_
  rintro e w16 ⟨m, rfl, Hm, hb16⟩
  have HB16 := Hid.mk (below_more HB15.out hb16)
  clear hb16
  have hms : m.size ≤ 2097153 := Hm.out.2.2
  go_wp2_with fail
  refine (r_product b c 1048576 _ FB.out FC.out (by omega) (by omega) (by omega) (HT.out.keep HB16.out)).mono ?_
  rintro e w17 ⟨r5, rfl, Hr5, hb17⟩
  have HB17 := Hid.mk (below_more HB16.out hb17)
  clear hb17
  have er5 : x = r5 := (text_inj Hr5.out.1 Hx.out.1 (by rw [Hr5.out.2.1, Hx.out.2.1])).symm
  clear Hr5
  subst er5
  go_wp2_with fail
  refine (r_sum m x 2097153 _ Hm.out.1 Hx.out.1 (by omega) (by omega) (by omega) (HT.out.keep HB17.out)).mono ?_
  rintro e w18 ⟨r6, rfl, Hr6, hb18⟩
  have HB18 := Hid.mk (below_more HB17.out hb18)
  clear hb18
  have er6 : y = r6 := (text_inj Hr6.out.1 Hy.out.1 (by rw [Hr6.out.2.1, Hm.out.2.1, Hx.out.2.1, Hy.out.2.1, Hs.out.2.1, Int.add_mul])).symm
  clear Hr6
  subst er6
  go_wp2_with fail
  refine (r_difference a b 1048576 _ FA.out FB.out (by omega) (by omega) (by omega) (HT.out.keep HB18.out)).mono ?_
  rintro e w19 ⟨d, rfl, Hd, hb19⟩
  have HB19 := Hid.mk (below_more HB18.out hb19)
  clear hb19
  have hds : d.size ≤ 1048578 := Hd.out.2.2
  go_wp2_with fail
  refine (r_sum d b 1048578 _ Hd.out.1 FB.out (by omega) (by omega) (by omega) (HT.out.keep HB19.out)).mono ?_
  rintro e w20 ⟨r7, rfl, Hr7, hb20⟩
  have HB20 := Hid.mk (below_more HB19.out hb20)
  clear hb20
  have er7 : a = r7 := (text_inj Hr7.out.1 FA.out (by rw [Hr7.out.2.1, Hd.out.2.1, Int.sub_add_cancel])).symm
  clear Hr7
  subst er7
  go_wp2_with fail
  refine (r_sum a ⟨#[48]⟩ 1048576 _ FA.out F0.out (by omega) (by omega) (by omega) (HT.out.keep HB20.out)).mono ?_
  rintro e w21 ⟨r8, rfl, Hr8, hb21⟩
  have HB21 := Hid.mk (below_more HB20.out hb21)
  clear hb21
  have er8 : a = r8 := (text_inj Hr8.out.1 FA.out (by rw [Hr8.out.2.1]; exact Int.add_zero _)).symm
  clear Hr8
  subst er8
  go_wp2_with fail
  refine (r_product a ⟨#[49]⟩ 1048576 _ FA.out F1.out (by omega) (by omega) (by omega) (HT.out.keep HB21.out)).mono ?_
  rintro e w22 ⟨r9, rfl, Hr9, hb22⟩
  have HB22 := Hid.mk (below_more HB21.out hb22)
  clear hb22
  have er9 : a = r9 := (text_inj Hr9.out.1 FA.out (by rw [Hr9.out.2.1]; exact Int.mul_one _)).symm
  clear Hr9
  subst er9
  go_wp2_with fail
  go_ret
  exact ⟨rfl, HB22.out⟩

theorem w_Ring (a b c : ByteArray) (w : World) (ha : a.size ≤ 1048576) (hb : b.size ≤ 1048576) (hc : c.size ≤ 1048576) (htab : Tab w) :
    Calls Tryd.prog 4 #[.string a, .string b, .string c] w fun e w' => e = .returned (.bool true) ∧ Below w.heap.size w w' := by
  cases hf : (Pl.formed a.data.toList && Pl.formed b.data.toList && Pl.formed c.data.toList) with
  | false => exact w_Ring_not a b c w ha hb hc htab hf
  | true =>
    simp only [Bool.and_eq_true] at hf
    exact w_Ring_at a b c w ha hb hc htab hf.1.1 hf.1.2 hf.2
end Go.Proofs.YtgnaeddpdomgkabDoor
