import Derived.Test.YtdegoefedkidcaaDoorM37
import Derived.Test.YtdegoefedkidcaaDoorZKnown
namespace Go.Proofs.YtdegoefedkidcaaDoor
open Go.RowKit
set_option linter.unusedVariables false
set_option linter.unusedSimpArgs false

set_option maxRecDepth 100000 in
set_option maxHeartbeats 3200000 in
theorem w_TensTwo_long (a b : ByteArray) (w : World) (htab : Tab w) (hl : 2000 < a.size ∨ 2000 < b.size) :
    Calls Tryd.prog 6 #[.string a, .string b] w fun e w' => e = .returned (.bool true) ∧ Below w.heap.size w w' := by
  have HT := Hid.mk htab
  clear htab
  have hs : (2000 : Int) < (a.size : Int) ∨ (¬ (2000 : Int) < (a.size : Int) ∧ (2000 : Int) < (b.size : Int)) := by omega
  clear hl
  rcases hs with h1 | ⟨h1, h2⟩
  all_goals
    go_enter Tryd.func6, Tryd.ntmps6
    go_wp2_with fail
    refine (w_Known _ HT.out).mono ?_
    rintro e w1 ⟨rfl, hb1⟩
    have HB1 := Hid.mk hb1
    clear hb1
    go_wp2_with fail
    go_ret
    exact ⟨rfl, HB1.out⟩

set_option maxRecDepth 100000 in
set_option maxHeartbeats 6400000 in
theorem w_TensTwo_at (a b : ByteArray) (w : World) (ha : a.size ≤ 2000) (hb : b.size ≤ 2000) (htab : Tab w) :
    Calls Tryd.prog 6 #[.string a, .string b] w fun e w' => e = .returned (.bool true) ∧ Below w.heap.size w w' := by
  have HT := Hid.mk htab
  obtain ⟨TAdd, EAdd, eAdd, bAdd⟩ := both_Add a b (by omega) (by omega)
  obtain ⟨mAdd, nAdd⟩ := eAdd
  have HAdd := Hid.mk bAdd
  clear bAdd
  obtain ⟨TSub, ESub, eSub, bSub⟩ := both_Sub a b (by omega) (by omega)
  obtain ⟨mSub, nSub⟩ := eSub
  have HSub := Hid.mk bSub
  clear bSub
  obtain ⟨TMul, EMul, eMul, bMul⟩ := both_Mul a b (by omega) (by omega)
  obtain ⟨mMul, nMul⟩ := eMul
  have HMul := Hid.mk bMul
  clear bMul
  obtain ⟨TDiv, EDiv, eDiv, bDiv⟩ := both_Div a b (by omega) (by omega)
  obtain ⟨mDiv, nDiv⟩ := eDiv
  have HDiv := Hid.mk bDiv
  clear bDiv
  obtain ⟨TMod, EMod, eMod, bMod⟩ := both_Mod a b (by omega) (by omega)
  obtain ⟨mMod, nMod⟩ := eMod
  have HMod := Hid.mk bMod
  clear bMod
  have HB0 : Hid (Below w.heap.size w w) := Below.refl _ _
  clear htab
  go_enter Tryd.func6, Tryd.ntmps6
  go_wp2_with fail
  refine (HAdd.out.1 _ (HT.out.keep HB0.out)).mono ?_
  rintro e v0 ⟨rfl, hb⟩
  have HC0 := Hid.mk (below_more HB0.out hb)
  clear hb
  go_wp2_with fail
  refine (HAdd.out.2 _ (HT.out.keep HC0.out)).mono ?_
  rintro e w1 ⟨rfl, hb⟩
  have HB1 := Hid.mk (below_more HC0.out hb)
  clear hb
  go_wp2_with fail
  refine (w_same _ _ _ _ _ rfl rfl).mono ?_
  rintro e y0 ⟨rfl, hw⟩
  obtain rfl := hw.symm
  go_wp2_with fail
  refine (HSub.out.1 _ (HT.out.keep HB1.out)).mono ?_
  rintro e v1 ⟨rfl, hb⟩
  have HC1 := Hid.mk (below_more HB1.out hb)
  clear hb
  go_wp2_with fail
  refine (HSub.out.2 _ (HT.out.keep HC1.out)).mono ?_
  rintro e w2 ⟨rfl, hb⟩
  have HB2 := Hid.mk (below_more HC1.out hb)
  clear hb
  go_wp2_with fail
  refine (w_same _ _ _ _ _ rfl rfl).mono ?_
  rintro e y1 ⟨rfl, hw⟩
  obtain rfl := hw.symm
  go_wp2_with fail
  refine (HMul.out.1 _ (HT.out.keep HB2.out)).mono ?_
  rintro e v2 ⟨rfl, hb⟩
  have HC2 := Hid.mk (below_more HB2.out hb)
  clear hb
  go_wp2_with fail
  refine (HMul.out.2 _ (HT.out.keep HC2.out)).mono ?_
  rintro e w3 ⟨rfl, hb⟩
  have HB3 := Hid.mk (below_more HC2.out hb)
  clear hb
  go_wp2_with fail
  refine (w_same _ _ _ _ _ rfl rfl).mono ?_
  rintro e y2 ⟨rfl, hw⟩
  obtain rfl := hw.symm
  go_wp2_with fail
  refine (HDiv.out.1 _ (HT.out.keep HB3.out)).mono ?_
  rintro e v3 ⟨rfl, hb⟩
  have HC3 := Hid.mk (below_more HB3.out hb)
  clear hb
  go_wp2_with fail
  refine (HDiv.out.2 _ (HT.out.keep HC3.out)).mono ?_
  rintro e w4 ⟨rfl, hb⟩
  have HB4 := Hid.mk (below_more HC3.out hb)
  clear hb
  go_wp2_with fail
  refine (w_same _ _ _ _ _ rfl rfl).mono ?_
  rintro e y3 ⟨rfl, hw⟩
  obtain rfl := hw.symm
  go_wp2_with fail
  refine (HMod.out.1 _ (HT.out.keep HB4.out)).mono ?_
  rintro e v4 ⟨rfl, hb⟩
  have HC4 := Hid.mk (below_more HB4.out hb)
  clear hb
  go_wp2_with fail
  refine (HMod.out.2 _ (HT.out.keep HC4.out)).mono ?_
  rintro e w5 ⟨rfl, hb⟩
  have HB5 := Hid.mk (below_more HC4.out hb)
  clear hb
  go_wp2_with fail
  refine (w_same _ _ _ _ _ rfl rfl).mono ?_
  rintro e y4 ⟨rfl, hw⟩
  obtain rfl := hw.symm
  go_wp2_with fail
  refine (w_Known _ (HT.out.keep HB5.out)).mono ?_
  rintro e w9 ⟨rfl, hb9⟩
  have HB9 := Hid.mk (below_more HB5.out hb9)
  clear hb9
  go_wp2_with fail
  go_ret
  exact ⟨rfl, HB9.out⟩

theorem w_TensTwo (a b : ByteArray) (w : World) (htab : Tab w) :
    Calls Tryd.prog 6 #[.string a, .string b] w fun e w' => e = .returned (.bool true) ∧ Below w.heap.size w w' := by
  by_cases h : 2000 < a.size ∨ 2000 < b.size
  · exact w_TensTwo_long a b w htab h
  · exact w_TensTwo_at a b w (by omega) (by omega) htab
end Go.Proofs.YtdegoefedkidcaaDoor
