import Derived.Test.YtdegoefedkidcaaDoorM37
namespace Go.Proofs.YtdegoefedkidcaaDoor
open Go.RowKit
set_option linter.unusedVariables false
set_option linter.unusedSimpArgs false

theorem says_seven : Says 16 #[.string ⟨#[55]⟩] ⟨#[45, 55]⟩ 0 := says_ans (z := -7) (by decide) (by decide) (fun u hu => by
  have := w_Neg ⟨#[55]⟩ u (by decide) (by decide) hu
  rw [show Pl.ival (ByteArray.mk #[55]).data.toList = 7 by decide] at this
  exact this)

set_option maxRecDepth 100000 in
set_option maxHeartbeats 6400000 in
theorem w_TensOne (a : ByteArray) (w : World) (ha : a.size ≤ 1048576) (htab : Tab w) :
    Calls Tryd.prog 5 #[.string a] w fun e w' => e = .returned (.bool true) ∧ Below w.heap.size w w' := by
  have HT := Hid.mk htab
  have HSev := Hid.mk says_seven
  obtain ⟨TNeg, ENeg, eNeg, bNeg⟩ := both_Neg a (by omega)
  obtain ⟨mNeg, nNeg⟩ := eNeg
  have HNeg := Hid.mk bNeg
  clear bNeg
  obtain ⟨TAbs, EAbs, eAbs, bAbs⟩ := both_Abs a (by omega)
  obtain ⟨mAbs, nAbs⟩ := eAbs
  have HAbs := Hid.mk bAbs
  clear bAbs
  obtain ⟨TRoot, ERoot, eRoot, bRoot⟩ := both_Root a (by omega)
  obtain ⟨mRoot, nRoot⟩ := eRoot
  have HRoot := Hid.mk bRoot
  clear bRoot
  have HB0 : Hid (Below w.heap.size w w) := Below.refl _ _
  clear htab
  go_enter Tryd.func5, Tryd.ntmps5
  go_wp2_with fail
  refine (HNeg.out.1 _ (HT.out.keep HB0.out)).mono ?_
  rintro e v0 ⟨rfl, hb⟩
  have HC0 := Hid.mk (below_more HB0.out hb)
  clear hb
  go_wp2_with fail
  refine (HNeg.out.2 _ (HT.out.keep HC0.out)).mono ?_
  rintro e w1 ⟨rfl, hb⟩
  have HB1 := Hid.mk (below_more HC0.out hb)
  clear hb
  go_wp2_with fail
  refine (w_same _ _ _ _ _ rfl rfl).mono ?_
  rintro e y0 ⟨rfl, hw⟩
  obtain rfl := hw.symm
  go_wp2_with fail
  refine (HAbs.out.1 _ (HT.out.keep HB1.out)).mono ?_
  rintro e v1 ⟨rfl, hb⟩
  have HC1 := Hid.mk (below_more HB1.out hb)
  clear hb
  go_wp2_with fail
  refine (HAbs.out.2 _ (HT.out.keep HC1.out)).mono ?_
  rintro e w2 ⟨rfl, hb⟩
  have HB2 := Hid.mk (below_more HC1.out hb)
  clear hb
  go_wp2_with fail
  refine (w_same _ _ _ _ _ rfl rfl).mono ?_
  rintro e y1 ⟨rfl, hw⟩
  obtain rfl := hw.symm
  go_wp2_with fail
  refine (HSev.out _ (HT.out.keep HB2.out)).mono ?_
  rintro e w4 ⟨rfl, hb⟩
  have HB4 := Hid.mk (below_more HB2.out hb)
  clear hb
  go_wp2_with fail
  refine (w_same _ _ _ _ _ rfl rfl).mono ?_
  rintro e y9 ⟨rfl, hw⟩
  obtain rfl := hw.symm
  by_cases h4 : 400 < a.size
  · have h5 : (400 : Int) < (a.size : Int) := by omega
    go_wp2_with fail
    refine (w_same _ _ _ _ _ rfl rfl).mono ?_
    rintro e y10 ⟨rfl, hw⟩
    obtain rfl := hw.symm
    go_wp2_with fail
    go_ret
    exact ⟨rfl, HB4.out⟩
  · have h5 : ¬ (400 : Int) < (a.size : Int) := by omega
    go_wp2_with fail
    refine (HRoot.out.1 _ (HT.out.keep HB4.out)).mono ?_
    rintro e v4 ⟨rfl, hb⟩
    have HC4 := Hid.mk (below_more HB4.out hb)
    clear hb
    go_wp2_with fail
    refine (HRoot.out.2 _ (HT.out.keep HC4.out)).mono ?_
    rintro e w5 ⟨rfl, hb⟩
    have HB5 := Hid.mk (below_more HC4.out hb)
    clear hb
    go_wp2_with fail
    refine (w_same _ _ _ _ _ rfl rfl).mono ?_
    rintro e y4 ⟨rfl, hw⟩
    obtain rfl := hw.symm
    go_wp2_with fail
    go_ret
    exact ⟨rfl, HB5.out⟩
end Go.Proofs.YtdegoefedkidcaaDoor
