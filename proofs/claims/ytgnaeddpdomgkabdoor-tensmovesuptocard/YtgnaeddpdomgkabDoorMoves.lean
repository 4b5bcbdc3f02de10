import Derived.Test.YtgnaeddpdomgkabDoorKnown
import Derived.Test.YtgnaeddpdomgkabDoorThree
namespace Go.Proofs.YtgnaeddpdomgkabDoor
open Go.RowKit
set_option linter.unusedVariables false
set_option linter.unusedSimpArgs false

theorem cmpI_shift (a b c : Int) : Pl.cmpI (a + c) (b + c) = Pl.cmpI a b := by
  unfold Pl.cmpI
  have h1 : (a + c < b + c) ↔ (a < b) := by omega
  have h2 : (b + c < a + c) ↔ (b < a) := by omega
  simp only [h1, h2]

set_option maxRecDepth 100000 in
set_option maxHeartbeats 1600000 in
theorem w_Moves_not (a b c : ByteArray) (w : World) (ha : a.size ≤ 1048576) (hb : b.size ≤ 1048576) (hc : c.size ≤ 1048576) (htab : Tab w) (hf : (Pl.formed a.data.toList && Pl.formed b.data.toList && Pl.formed c.data.toList) = false) :
    Calls Tryd.prog 5 #[.string a, .string b, .string c] w fun e w' => e = .returned (.bool true) ∧ Below w.heap.size w w' := by
  have HT := Hid.mk htab
  have H3 := Hid.mk (fun (u : World) => w_three a b c u (by omega) (by omega) (by omega))
  have HF := Hid.mk hf
  clear htab hf
  go_enter Tryd.func5, Tryd.ntmps5
  go_wp2_with fail
  refine (w_Known _ HT.out).mono ?_
  rintro e w1 ⟨rfl, hb1⟩
  have HB1 := Hid.mk hb1
  clear hb1
  go_wp2_with fail
  refine (H3.out _).mono ?_
  rintro e w2 ⟨rfl, hb2⟩
  rw [HF.out]
  have HB2 := Hid.mk (below_more HB1.out hb2)
  clear hb2
  go_wp2_with fail
  go_ret
  exact ⟨rfl, HB2.out⟩

set_option maxRecDepth 100000 in
set_option maxHeartbeats 3200000 in
theorem w_Moves_at (a b c : ByteArray) (w : World) (ha : a.size ≤ 1048576) (hb : b.size ≤ 1048576) (hc : c.size ≤ 1048576) (htab : Tab w) (fa : Pl.formed a.data.toList = true) (fb : Pl.formed b.data.toList = true) (fc : Pl.formed c.data.toList = true)
    (x : Int) (hx : Pl.cmpI (Pl.ival a.data.toList) (Pl.ival b.data.toList) = x) (hx1 : -1 ≤ x) (hx2 : x ≤ 1) (hq : (a.toList == b.toList) = decide (x = 0)) :
    Calls Tryd.prog 5 #[.string a, .string b, .string c] w fun e w' => e = .returned (.bool true) ∧ Below w.heap.size w w' := by
  have HT := Hid.mk htab
  have H3 : Hid (∀ (u : World), Calls Tryd.prog 16 #[.string a, .string b, .string c] u fun e w' => e = .returned (.bool true) ∧ Below u.heap.size u w') := by
    intro u
    have := w_three a b c u (by omega) (by omega) (by omega)
    rw [fa, fb, fc] at this
    exact this
  have H4 : Hid (∀ (u : World), Calls Tryd.prog 17 #[.string a, .string b] u fun e w' => e = .returned (.tuple #[.int .i64 x, .int .i64 0]) ∧ Below u.heap.size u w') := by
    intro u
    have := w_CmpF a b u (by omega) (by omega) fa fb
    rw [hx] at this
    exact this
  have H5 : Hid (∀ (u : World), Calls Tryd.prog 17 #[.string b, .string a] u fun e w' => e = .returned (.tuple #[.int .i64 (-x), .int .i64 0]) ∧ Below u.heap.size u w') := by
    intro u
    have := w_CmpF b a u (by omega) (by omega) fb fa
    rw [Pl.cmpI_swap, hx] at this
    exact this
  have H6 : Hid (∀ (u : World), Tab u → Calls Tryd.prog 8 #[.string a, .string c] u fun e w' => ∃ r : ByteArray, e = .returned (.string r) ∧ Hid (Pl.formed r.data.toList = true ∧ Pl.ival r.data.toList = Pl.ival a.data.toList + Pl.ival c.data.toList ∧ r.size ≤ 1048578) ∧ Below u.heap.size u w') := by
    intro u hu
    refine (w_lsum a c u (by omega) (by omega) fa fc hu).mono ?_
    rintro e w' ⟨r, rfl, r1, r2, r3⟩
    exact ⟨r, rfl, ⟨r1, r2, add_size fa fc r1 r2 ha hc⟩, r3⟩
  have H7 : Hid (∀ (u : World), Tab u → Calls Tryd.prog 8 #[.string b, .string c] u fun e w' => ∃ r : ByteArray, e = .returned (.string r) ∧ Hid (Pl.formed r.data.toList = true ∧ Pl.ival r.data.toList = Pl.ival b.data.toList + Pl.ival c.data.toList ∧ r.size ≤ 1048578) ∧ Below u.heap.size u w') := by
    intro u hu
    refine (w_lsum b c u (by omega) (by omega) fb fc hu).mono ?_
    rintro e w' ⟨r, rfl, r1, r2, r3⟩
    exact ⟨r, rfl, ⟨r1, r2, add_size fb fc r1 r2 hb hc⟩, r3⟩
  have HX := Hid.mk hx
  clear htab fa fb fc hx
  go_enter Tryd.func5, Tryd.ntmps5
  go_wp2_with fail
  refine (w_Known _ HT.out).mono ?_
  rintro e w1 ⟨rfl, hb1⟩
  have HB1 := Hid.mk hb1
  clear hb1
  go_wp2_with fail
  refine (H3.out _).mono ?_
  rintro e w2 ⟨rfl, hb2⟩
  have HB2 := Hid.mk (below_more HB1.out hb2)
  clear hb2
  go_wp2_with fail
  refine (H4.out _).mono ?_
  rintro e w3 ⟨rfl, hb3⟩
  have HB3 := Hid.mk (below_more HB2.out hb3)
  clear hb3
  go_wp2_with fail
  refine (H6.out _ (HT.out.keep HB3.out)).mono ?_
  rintro e w4 ⟨r, rfl, HR, hb4⟩
  have HB4 := Hid.mk (below_more HB3.out hb4)
  clear hb4
  go_wp2_with fail
  refine (H7.out _ (HT.out.keep HB4.out)).mono ?_
  rintro e w5 ⟨t, rfl, HS, hb5⟩
  have HB5 := Hid.mk (below_more HB4.out hb5)
  clear hb5
  have H8 : Hid (∀ (u : World), Calls Tryd.prog 17 #[.string r, .string t] u fun e w' => e = .returned (.tuple #[.int .i64 x, .int .i64 0]) ∧ Below u.heap.size u w') := by
    intro u
    have := w_CmpF r t u (by have := HR.out.2.2; omega) (by have := HS.out.2.2; omega) HR.out.1 HS.out.1
    rw [HR.out.2.1, HS.out.2.1, cmpI_shift, HX.out] at this
    exact this
  go_wp2_with fail
  refine (H8.out _).mono ?_
  rintro e w6 ⟨rfl, hb6⟩
  have HB6 := Hid.mk (below_more HB5.out hb6)
  clear hb6
  go_wp2_with fail
  refine (H5.out _).mono ?_
  rintro e w7 ⟨rfl, hb7⟩
  have HB7 := Hid.mk (below_more HB6.out hb7)
  clear hb7
  have hxc : x = -1 ∨ x = 0 ∨ x = 1 := by omega
  clear hx1 hx2
  rcases hxc with rfl | rfl | rfl
  · go_wp2_with fail
    go_ret
    exact ⟨rfl, HB7.out⟩
  · go_wp2_with fail
    go_ret
    exact ⟨rfl, HB7.out⟩
  · go_wp2_with fail
    go_ret
    exact ⟨rfl, HB7.out⟩

theorem w_Moves (a b c : ByteArray) (w : World) (ha : a.size ≤ 1048576) (hb : b.size ≤ 1048576) (hc : c.size ≤ 1048576) (htab : Tab w) :
    Calls Tryd.prog 5 #[.string a, .string b, .string c] w fun e w' => e = .returned (.bool true) ∧ Below w.heap.size w w' := by
  cases hf : (Pl.formed a.data.toList && Pl.formed b.data.toList && Pl.formed c.data.toList) with
  | false => exact w_Moves_not a b c w ha hb hc htab hf
  | true =>
    simp only [Bool.and_eq_true] at hf
    have hbd := Pl.cmpI_bd (Pl.ival a.data.toList) (Pl.ival b.data.toList)
    refine w_Moves_at a b c w ha hb hc htab hf.1.1 hf.1.2 hf.2 _ rfl hbd.1 hbd.2 ?_
    rw [toList_eq a b hf.1.1 hf.1.2]
    unfold Pl.cmpI
    by_cases h1 : Pl.ival a.data.toList < Pl.ival b.data.toList
    · simp [h1]; omega
    · by_cases h2 : Pl.ival b.data.toList < Pl.ival a.data.toList
      · simp [h1, h2]; omega
      · simp [h1, h2]; omega
end Go.Proofs.YtgnaeddpdomgkabDoor
