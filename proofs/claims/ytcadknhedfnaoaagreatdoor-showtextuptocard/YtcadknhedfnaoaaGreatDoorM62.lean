import Derived.Test.YtcadknhedfnaoaaGreatDoorM57
import Derived.Test.YtcadknhedfnaoaaGreatDoorM58
import Derived.Test.YtcadknhedfnaoaaGreatDoorM61
namespace Go.Proofs.YtcadknhedfnaoaaGreatDoor
open Go.RowKit Go.Shelf Go.Sort
set_option linter.unusedVariables false
set_option linter.unusedSimpArgs false
attribute [local go_sem] Oper.semAt_some

set_option maxRecDepth 100000 in
set_option maxHeartbeats 1600000 in
theorem w_rText (h : Nat) (A : NT) (va : Value) (w : World) (hA : InA w h A va) (hbk : bkT h A ≤ 1048576) : Calls Tryz.prog 7 #[va] w fun e w' => e = .returned (.tuple #[.string (bs (txA h A)), .int .i64 (txE h A)]) ∧ Below w.heap.size w w' := by
  obtain ⟨aop, aat, avk, atx, avn, avx, aio, ayo, ano, ako, avi, aic, avy, ayc, ann, anc, akn, akc, rfl⟩ := inA_shape hA
  obtain ⟨W1, hW1⟩ : ∃ W1, w.alloc (.cells #[.int .i64 aop, .int .i64 aat, .string atx, .int .i64 avk, .string avn, .string avx, .slice aio avi aic, .slice ayo avy ayc, .slice ano ann anc, .slice ako akn akc] 28) = W1 := ⟨_, rfl⟩
  have HX1 := Hid.mk (B1.new hW1)
  have HF0 := Hid.mk (w_rFormedN h A _ W1 (hA.low HX1.out.below))
  rw [← fp_fr] at HF0
  have HPt : Hid (fpN h A = true → ∀ u, Below w.heap.size w u → Calls Tryz.prog 13 #[.agg #[.int .i64 aop, .int .i64 aat, .string atx, .int .i64 avk, .string avn, .string avx, .slice aio avi aic, .slice ayo avy ayc, .slice ano ann anc, .slice ako akn akc]] u fun e w' => e = .returned (.string (bs (shT h A))) ∧ Below u.heap.size u w') := fun hf u hu => (w_part h).1 A _ u (hA.low hu) hf hbk
  obtain ⟨x0, x1, x2, x3, x4, x5, x6, x7, x8, x9⟩ := nd_cells HX1.out.a
  unfold txA txE
  clear hA hbk
  cases hf : fpN h A with
  | false =>
    rw [hf] at HF0
    rw [if_neg (by decide), if_neg (by decide)]
    clear HPt hf
    go_enter Tryz.func7, Tryz.ntmps7
    go_wp2_with fail
    refine HF0.out.mono ?_
    rintro e w2 ⟨rfl, hb2⟩
    have HX2 := Hid.mk (HX1.out.keep hb2)
    clear hb2 x0 x1 x2 x3 x4 x5 x6 x7 x8 x9 hW1
    go_wp2_with fail
    go_ret2
    exact ⟨rfl, HX2.out.below⟩
  | true =>
    have HP2 := Hid.mk (HPt.out hf)
    rw [hf] at HF0
    rw [if_pos rfl, if_pos rfl]
    clear HPt hf
    generalize bs (shT h A) = Y at *
    go_enter Tryz.func7, Tryz.ntmps7
    go_wp2_with fail
    refine HF0.out.mono ?_
    rintro e w2 ⟨rfl, hb2⟩
    have HX2 := Hid.mk (HX1.out.keep hb2)
    clear hb2 x0 x1 x2 x3 x4 x5 x6 x7 x8 x9 hW1
    obtain ⟨x0, x1, x2, x3, x4, x5, x6, x7, x8, x9⟩ := nd_cells HX2.out.a
    go_wp2_with fail
    refine (HP2.out _ HX2.out.below).mono ?_
    rintro e w3 ⟨rfl, hb3⟩
    have HX3 := Hid.mk (HX2.out.keep hb3)
    clear hb3 x0 x1 x2 x3 x4 x5 x6 x7 x8 x9
    go_wp2_with fail
    go_ret2
    exact ⟨rfl, HX3.out.below⟩

set_option maxRecDepth 100000 in
set_option maxHeartbeats 1600000 in
theorem w_TextN (h : Nat) (A : NT) (va : Value) (w : World) (hA : InA w h A va) (hf : fpN h A = false) : Calls Tryz.prog 8 #[va] w fun e w' => e = .returned (.tuple #[.string (bs (txA h A)), .int .i64 (txE h A)]) ∧ Below w.heap.size w w' := by
  obtain ⟨aop, aat, avk, atx, avn, avx, aio, ayo, ano, ako, avi, aic, avy, ayc, ann, anc, akn, akc, rfl⟩ := inA_shape hA
  have hb1 := below1 w (.cells #[.int .i64 aop, .int .i64 aat, .string atx, .int .i64 avk, .string avn, .string avx, .slice aio avi aic, .slice ayo avy ayc, .slice ano ann anc, .slice ako akn akc] 28)
  have HF := Hid.mk (w_FormedP h A _ _ (hA.low hb1))
  have HX := Hid.mk (B1.new (w := w) (ca := #[.int .i64 aop, .int .i64 aat, .string atx, .int .i64 avk, .string avn, .string avx, .slice aio avi aic, .slice ayo avy ayc, .slice ano ann anc, .slice ako akn akc]) (t := 28) rfl)
  unfold txA txE
  rw [hf] at HF ⊢
  rw [if_neg (by decide), if_neg (by decide)]
  clear hA hf hb1
  go_enter Tryz.func8, Tryz.ntmps8
  go_wp2_with fail
  refine HF.out.mono ?_
  rintro e w2 ⟨rfl, hb2⟩
  have HB2 := Hid.mk (HX.out.keep hb2)
  clear hb2
  go_wp2_with fail
  go_ret2
  exact ⟨rfl, HB2.out.below⟩
theorem w_TextB (h : Nat) (A : NT) (va : Value) (w : World) (hA : InA w h A va) (hT : PTabIn w) (hbk : bkT h A ≤ 1048576) : Calls Tryz.prog 8 #[va] w fun e w' => e = .returned (.tuple #[.string (bs (txA h A)), .int .i64 (txE h A)]) ∧ Below w.heap.size w w' := by
  cases hf : fpN h A with
  | false => exact w_TextN h A va w hA hf
  | true => exact w_TextP h A va w hA hT (tx_of_bk h A hbk) (by have := shT_len h A hf; omega)

set_option maxRecDepth 100000 in
set_option maxHeartbeats 3200000 in
theorem w_ShowText (h : Nat) (A : NT) (va : Value) (w : World) (hA : InA w h A va) (hbk : bkT h A ≤ 1048576) (hT : PTabIn w) : Calls Tryz.prog 3 #[va] w fun e w' => e = .returned (.bool true) ∧ Below w.heap.size w w' := by
  obtain ⟨aop, aat, avk, atx, avn, avx, aio, ayo, ano, ako, avi, aic, avy, ayc, ann, anc, akn, akc, rfl⟩ := inA_shape hA
  obtain ⟨W1, hW1⟩ : ∃ W1, w.alloc (.cells #[.int .i64 aop, .int .i64 aat, .string atx, .int .i64 avk, .string avn, .string avx, .slice aio avi aic, .slice ayo avy ayc, .slice ano ann anc, .slice ako akn akc] 28) = W1 := ⟨_, rfl⟩
  have HX1 := Hid.mk (B1.new hW1)
  have HFt := Hid.mk (w_FitNode h A _ W1 (hA.low HX1.out.below))
  have HRT : Hid (∀ u, Below w.heap.size w u → Calls Tryz.prog 7 #[.agg #[.int .i64 aop, .int .i64 aat, .string atx, .int .i64 avk, .string avn, .string avx, .slice aio avi aic, .slice ayo avy ayc, .slice ano ann anc, .slice ako akn akc]] u fun e w' => e = .returned (.tuple #[.string (bs (txA h A)), .int .i64 (txE h A)]) ∧ Below u.heap.size u w') := fun u hu => w_rText h A _ u (hA.low hu) hbk
  have HPT : Hid (∀ u, Below w.heap.size w u → Calls Tryz.prog 8 #[.agg #[.int .i64 aop, .int .i64 aat, .string atx, .int .i64 avk, .string avn, .string avx, .slice aio avi aic, .slice ayo avy ayc, .slice ano ann anc, .slice ako akn akc]] u fun e w' => e = .returned (.tuple #[.string (bs (txA h A)), .int .i64 (txE h A)]) ∧ Below u.heap.size u w') := fun u hu => w_TextB h A _ u (hA.low hu) (hT.keep hu) hbk
  have HWk : Hid (∀ u, Below w.heap.size w u → Calls Tryz.prog 6 #[] u fun e w' => e = .returned (.bool true) ∧ Below u.heap.size u w') := fun u hu => w_works u (hT.keep hu)
  generalize bs (txA h A) = Y at *
  generalize txE h A = er at *
  generalize decide (paN h A 20000 ≤ 20000) = fit at *
  clear hA hbk hT
  obtain ⟨x0, x1, x2, x3, x4, x5, x6, x7, x8, x9⟩ := nd_cells HX1.out.a
  cases fit with
  | false =>
    go_enter Tryz.func3, Tryz.ntmps3
    go_wp2_with fail
    refine HFt.out.mono ?_
    rintro e w2 ⟨rfl, hb2⟩
    have HX2 := Hid.mk (HX1.out.keep hb2)
    clear hb2 x0 x1 x2 x3 x4 x5 x6 x7 x8 x9 hW1
    go_wp2_with fail
    refine (HWk.out _ HX2.out.below).mono ?_
    rintro e w3 ⟨rfl, hb3⟩
    have HX3 := Hid.mk (HX2.out.keep hb3)
    clear hb3
    go_wp2_with fail
    go_ret
    exact ⟨rfl, HX3.out.below⟩
  | true =>
    go_enter Tryz.func3, Tryz.ntmps3
    go_wp2_with fail
    refine HFt.out.mono ?_
    rintro e w2 ⟨rfl, hb2⟩
    have HX2 := Hid.mk (HX1.out.keep hb2)
    clear hb2 x0 x1 x2 x3 x4 x5 x6 x7 x8 x9 hW1
    obtain ⟨x0, x1, x2, x3, x4, x5, x6, x7, x8, x9⟩ := nd_cells HX2.out.a
    go_wp2_with fail
    refine (HRT.out _ HX2.out.below).mono ?_
    rintro e w3 ⟨rfl, hb3⟩
    have HX3 := Hid.mk (HX2.out.keep hb3)
    clear hb3 x0 x1 x2 x3 x4 x5 x6 x7 x8 x9
    obtain ⟨x0, x1, x2, x3, x4, x5, x6, x7, x8, x9⟩ := nd_cells HX3.out.a
    go_wp2_with fail
    refine (HPT.out _ HX3.out.below).mono ?_
    rintro e w4 ⟨rfl, hb4⟩
    have HX4 := Hid.mk (HX3.out.keep hb4)
    clear hb4 x0 x1 x2 x3 x4 x5 x6 x7 x8 x9
    obtain ⟨x0, x1, x2, x3, x4, x5, x6, x7, x8, x9⟩ := nd_cells HX4.out.a
    go_wp2_with fail
    refine (HPT.out _ HX4.out.below).mono ?_
    rintro e w5 ⟨rfl, hb5⟩
    have HX5 := Hid.mk (HX4.out.keep hb5)
    clear hb5 x0 x1 x2 x3 x4 x5 x6 x7 x8 x9
    go_wp2_with fail
    refine (HWk.out _ HX5.out.below).mono ?_
    rintro e w6 ⟨rfl, hb6⟩
    have HX6 := Hid.mk (HX5.out.keep hb6)
    clear hb6
    go_wp2_with fail
    go_ret
    exact ⟨rfl, HX6.out.below⟩
end Go.Proofs.YtcadknhedfnaoaaGreatDoor
