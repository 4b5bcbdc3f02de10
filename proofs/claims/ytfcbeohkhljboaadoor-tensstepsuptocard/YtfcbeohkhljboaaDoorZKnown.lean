import Derived.Test.YtfcbeohkhljboaaDoorM40
namespace Go.Proofs.YtfcbeohkhljboaaDoor
open Go.RowKit
set_option linter.unusedVariables false
set_option linter.unusedSimpArgs false

theorem known1 (u : World) (h : Tab u) : Calls Tryd.prog 52 #[.string ⟨#[57, 57, 57]⟩, .string ⟨#[49]⟩] u fun e w' => e = .returned (.string ⟨#[49, 48, 48, 48]⟩) ∧ Below u.heap.size u w' := by
  refine (w_lsum ⟨#[57, 57, 57]⟩ ⟨#[49]⟩ u (by decide) (by decide) (by decide) (by decide) h).mono ?_
  rintro e w' ⟨r, rfl, r1, r2, r3⟩
  exact ⟨by rw [text_inj (b := ⟨#[49, 48, 48, 48]⟩) r1 (by decide) (by rw [r2]; decide)], r3⟩
theorem known2 (u : World) (h : Tab u) : Calls Tryd.prog 52 #[.string ⟨#[45, 53]⟩, .string ⟨#[53]⟩] u fun e w' => e = .returned (.string ⟨#[48]⟩) ∧ Below u.heap.size u w' := by
  refine (w_lsum ⟨#[45, 53]⟩ ⟨#[53]⟩ u (by decide) (by decide) (by decide) (by decide) h).mono ?_
  rintro e w' ⟨r, rfl, r1, r2, r3⟩
  exact ⟨by rw [text_inj (b := ⟨#[48]⟩) r1 (by decide) (by rw [r2]; decide)], r3⟩
theorem known3 (u : World) (h : Tab u) : Calls Tryd.prog 53 #[.string ⟨#[49]⟩, .string ⟨#[49, 48, 48, 48]⟩] u fun e w' => e = .returned (.string ⟨#[45, 57, 57, 57]⟩) ∧ Below u.heap.size u w' := by
  refine (w_ldifference ⟨#[49]⟩ ⟨#[49, 48, 48, 48]⟩ u (by decide) (by decide) (by decide) (by decide) h).mono ?_
  rintro e w' ⟨r, rfl, r1, r2, r3⟩
  exact ⟨by rw [text_inj (b := ⟨#[45, 57, 57, 57]⟩) r1 (by decide) (by rw [r2]; decide)], r3⟩
theorem known4 (u : World) (h : Tab u) : Calls Tryd.prog 54 #[.string ⟨#[45, 49, 50]⟩, .string ⟨#[49, 50]⟩] u fun e w' => e = .returned (.string ⟨#[45, 49, 52, 52]⟩) ∧ Below u.heap.size u w' := by
  refine (w_lproduct ⟨#[45, 49, 50]⟩ ⟨#[49, 50]⟩ u (by decide) (by decide) (by decide) (by decide) h).mono ?_
  rintro e w' ⟨r, rfl, r1, r2, r3⟩
  exact ⟨by rw [text_inj (b := ⟨#[45, 49, 52, 52]⟩) r1 (by decide) (by rw [r2]; decide)], r3⟩
theorem known5 (u : World) (h : Tab u) : Calls Tryd.prog 30 #[.string ⟨#[45, 55]⟩, .string ⟨#[50]⟩] u fun e w' => e = .returned (.tuple #[.string ⟨#[45, 51]⟩, .int .i64 0]) ∧ Below u.heap.size u w' := by
  refine (w_Div ⟨#[45, 55]⟩ ⟨#[50]⟩ u (by decide) (by decide) (by decide) (by decide) (by decide) h).mono ?_
  rintro e w' ⟨r, rfl, r1, r2, r3⟩
  exact ⟨by rw [text_inj (b := ⟨#[45, 51]⟩) r1 (by decide) (by rw [r2]; decide)], r3⟩
theorem known6 (u : World) (h : Tab u) : Calls Tryd.prog 32 #[.string ⟨#[45, 55]⟩, .string ⟨#[50]⟩] u fun e w' => e = .returned (.tuple #[.string ⟨#[45, 49]⟩, .int .i64 0]) ∧ Below u.heap.size u w' := by
  refine (w_Mod ⟨#[45, 55]⟩ ⟨#[50]⟩ u (by decide) (by decide) (by decide) (by decide) (by decide) h).mono ?_
  rintro e w' ⟨r, rfl, r1, r2, r3⟩
  exact ⟨by rw [text_inj (b := ⟨#[45, 49]⟩) r1 (by decide) (by rw [r2]; decide)], r3⟩
theorem known7 (u : World) (h : Tab u) : Calls Tryd.prog 21 #[.string ⟨#[49, 48, 48, 48, 48, 48, 48, 48, 48, 48, 48, 48, 48, 48, 48, 48, 48, 48, 48, 48, 48]⟩] u fun e w' => e = .returned (.tuple #[.string ⟨#[49, 48, 48, 48, 48, 48, 48, 48, 48, 48, 48]⟩, .int .i64 0]) ∧ Below u.heap.size u w' := by
  refine (w_Root ⟨#[49, 48, 48, 48, 48, 48, 48, 48, 48, 48, 48, 48, 48, 48, 48, 48, 48, 48, 48, 48, 48]⟩ u (by decide) (by decide) (by decide) h).mono ?_
  rintro e w' ⟨r, rfl, r1, r2, r3, r4, r5⟩
  have e1 : Pl.ival (ByteArray.mk #[49, 48, 48, 48, 48, 48, 48, 48, 48, 48, 48, 48, 48, 48, 48, 48, 48, 48, 48, 48, 48]).data.toList = 100000000000000000000 := by decide
  rw [e1] at r3 r4
  have e2 : Pl.ival r.data.toList = 10000000000 := by
    generalize Pl.ival r.data.toList = z at *
    have h1 : z ≤ 10000000000 := by
      rcases (show 10000000000 < z ∨ z ≤ 10000000000 by omega) with h | h
      · have := Int.mul_le_mul (show (10000000001 : Int) ≤ z by omega) (show (10000000001 : Int) ≤ z by omega) (by omega) (by omega)
        omega
      · exact h
    have h2 : 10000000000 ≤ z := by
      rcases (show z < 10000000000 ∨ 10000000000 ≤ z by omega) with h | h
      · have := Int.mul_le_mul (show z + 1 ≤ 10000000000 by omega) (show z + 1 ≤ 10000000000 by omega) (by omega) (by omega)
        omega
      · exact h
    omega
  exact ⟨by rw [text_inj (b := ⟨#[49, 48, 48, 48, 48, 48, 48, 48, 48, 48, 48]⟩) r1 (by decide) (by rw [e2]; decide)], r5⟩

set_option maxRecDepth 100000 in
set_option maxHeartbeats 3200000 in
theorem w_Known (w : World) (htab : Tab w) :
    Calls Tryd.prog 23 #[] w fun e w' => e = .returned (.bool true) ∧ Below w.heap.size w w' := by
  have HT := Hid.mk htab
  clear htab
  go_enter Tryd.func23, Tryd.ntmps23
  go_wp2_with fail
  refine (known1 _ HT.out).mono ?_
  rintro e w1 ⟨rfl, h1⟩
  have HB1 := Hid.mk (h1)
  clear h1
  go_wp2_with fail
  refine (known2 _ (HT.out.keep HB1.out)).mono ?_
  rintro e w2 ⟨rfl, h2⟩
  have HB2 := Hid.mk (below_more HB1.out h2)
  clear h2
  go_wp2_with fail
  refine (known3 _ (HT.out.keep HB2.out)).mono ?_
  rintro e w3 ⟨rfl, h3⟩
  have HB3 := Hid.mk (below_more HB2.out h3)
  clear h3
  go_wp2_with fail
  refine (known4 _ (HT.out.keep HB3.out)).mono ?_
  rintro e w4 ⟨rfl, h4⟩
  have HB4 := Hid.mk (below_more HB3.out h4)
  clear h4
  go_wp2_with fail
  refine (known5 _ (HT.out.keep HB4.out)).mono ?_
  rintro e w5 ⟨rfl, h5⟩
  have HB5 := Hid.mk (below_more HB4.out h5)
  clear h5
  go_wp2_with fail
  refine (known6 _ (HT.out.keep HB5.out)).mono ?_
  rintro e w6 ⟨rfl, h6⟩
  have HB6 := Hid.mk (below_more HB5.out h6)
  clear h6
  go_wp2_with fail
  refine (known7 _ (HT.out.keep HB6.out)).mono ?_
  rintro e w7 ⟨rfl, h7⟩
  have HB7 := Hid.mk (below_more HB6.out h7)
  clear h7
  go_wp2_with fail
  refine (w_Div_zero ⟨#[49]⟩ ⟨#[48]⟩ _ (by decide) (by decide) (by rw [Lib.toList_data])).mono ?_
  rintro e w8 ⟨rfl, h8⟩
  have HB8 := Hid.mk (below_more HB7.out h8)
  clear h8
  go_wp2_with fail
  refine (w_Root_neg ⟨#[45, 49]⟩ _ (by decide) (by decide) (by decide)).mono ?_
  rintro e w9 ⟨rfl, h9⟩
  have HB9 := Hid.mk (below_more HB8.out h9)
  clear h9
  go_wp2_with fail
  refine (w_Add_bad ⟨#[49]⟩ ⟨#[48, 49]⟩ _ (by decide) (by decide) (by decide)).mono ?_
  rintro e w10 ⟨rfl, h10⟩
  have HB10 := Hid.mk (below_more HB9.out h10)
  clear h10
  go_wp2_with fail
  refine (w_Formed ⟨#[45, 48]⟩ _ (by decide)).mono ?_
  rintro e w11 ⟨rfl, h11⟩
  have HB11 := Hid.mk (below_more HB10.out h11)
  clear h11
  rw [show Pl.formed (ByteArray.mk #[45, 48]).data.toList = false from by decide]
  go_wp2_with fail
  go_ret
  exact ⟨rfl, HB11.out⟩
end Go.Proofs.YtfcbeohkhljboaaDoor
