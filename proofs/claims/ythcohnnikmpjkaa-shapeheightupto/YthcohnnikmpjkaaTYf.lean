import Derived.Test.YthcohnnikmpjkaaTYe
namespace Go.Proofs.Ythcohnnikmpjkaa
open Go.RowKit Go.Shelf Go.Sort
set_option linter.unusedVariables false
set_option linter.unusedSimpArgs false
attribute [local go_sem] Oper.semAt_some

/-- no value's type, and that of the one object -/
def ttN : TT := .mk false false false false false [] [] [] []
def ttO : TT := .mk false false false false false [] [] [] [.mk [] [] [] ttN]
theorem inT_none (W : World) (h : Nat) : InT W (h + 1) ttN (.agg #[.bool false, .bool false, .bool false, .bool false, .slice none 0 0, .bool false, .slice none 0 0, .slice none 0 0, .slice none 0 0]) :=
  ⟨none, 0, none, 0, none, 0, none, 0, rfl, ⟨Nat.le_refl _, Nat.le_refl _, Nat.le_refl _, Nat.le_refl _⟩, ⟨Nat.zero_le _, Nat.zero_le _, Nat.zero_le _, Nat.zero_le _⟩, fun p hp => absurd hp (List.not_mem_nil), fun p hp => absurd hp (List.not_mem_nil), ⟨fun h => absurd h (Nat.lt_irrefl 0)⟩, ⟨fun h => absurd h (Nat.lt_irrefl 0)⟩, fun h => absurd h (Nat.lt_irrefl 0), fun h => absurd h (Nat.lt_irrefl 0)⟩
theorem inT_one (w : World) : InT (w.alloc (.cells #[.slice none 0 0, .slice none 0 0, .slice none 0 0, .bool false, .bool false, .bool false, .bool false, .slice none 0 0, .bool false, .slice none 0 0, .slice none 0 0, .slice none 0 0] 37)) 2 ttO
    (.agg #[.bool false, .bool false, .bool false, .bool false, .slice none 0 0, .bool false, .slice none 0 0, .slice none 0 0, .slice (some ⟨w.heap.size, 0, none⟩) 1 1]) := by
  refine ⟨none, 0, none, 0, none, 0, some ⟨w.heap.size, 0, none⟩, 1, rfl, ⟨Nat.le_refl _, Nat.le_refl _, Nat.le_refl _, Nat.le_refl _⟩, ⟨Nat.zero_le _, Nat.zero_le _, Nat.zero_le _, by decide⟩, fun p hp => absurd hp (List.not_mem_nil), fun p hp => absurd hp (List.not_mem_nil), ⟨fun h => absurd h (Nat.lt_irrefl 0)⟩, ⟨fun h => absurd h (Nat.lt_irrefl 0)⟩, fun h => absurd h (Nat.lt_irrefl 0), fun _ => ?_⟩
  refine ⟨w.heap.size, 0, rfl, by simp, fun i hi => ?_⟩
  have hi0 : i = 0 := by
    have : i < 1 := hi
    omega
  subst hi0
  refine ⟨none, 0, none, 0, none, 0, .bool false, .bool false, .bool false, .bool false, .slice none 0 0, .bool false, .slice none 0 0, .slice none 0 0, .slice none 0 0, ⟨by simp [go_sem]; rfl, by simp [go_sem]; rfl, by simp [go_sem]; rfl⟩, ⟨by simp [go_sem], by simp [go_sem], by simp [go_sem], by simp [go_sem], by simp [go_sem], by simp [go_sem], by simp [go_sem], by simp [go_sem], by simp [go_sem]⟩, ⟨Nat.le_refl _, Nat.le_refl _, Nat.le_refl _⟩, ⟨Nat.zero_le _, Nat.zero_le _, Nat.zero_le _, fun p hp => absurd hp (List.not_mem_nil)⟩, ⟨fun h => absurd h (Nat.lt_irrefl 0)⟩, ⟨fun h => absurd h (Nat.lt_irrefl 0)⟩, fun h => absurd h (Nat.lt_irrefl 0), inT_none _ 0⟩

set_option maxRecDepth 100000 in
set_option maxHeartbeats 3200000 in
theorem w_ShapeHeight (h : Nat) (T : TT) (v : Value) (w : World) (hI : InT w h T v) (htp : tpN h T ≤ 1048576) :
    Calls Try.prog 5 #[v] w fun e w' => e = .returned (.bool true) ∧ Below w.heap.size w w' := by
  have HF := Hid.mk (fun (u : World) (hu : Below w.heap.size w u) => w_FitType h T v u (hI.keep hu) htp)
  have HM := Hid.mk (fun (u : World) (hu : Below w.heap.size w u) => w_rFormed h T v u (hI.keep hu))
  have HP := Hid.mk (fun (u : World) (hu : Below w.heap.size w u) => w_sHeight h T v u (hI.keep hu) htp)
  have HR := Hid.mk (fun (u : World) (hu : Below w.heap.size w u) => w_rHeight h T v u (hI.keep hu) htp)
  have H1 := Hid.mk (fun (u : World) => w_sHeight 2 ttO _ _ (inT_one u) (by decide))
  have h1 : hgN 2 ttO = 1 := by decide
  rw [h1] at H1
  generalize decide (tpN h T ≤ 20000) = ft at HF
  generalize fmN h T = fm at HM
  generalize hgN h T = g at HP HR
  obtain ⟨b0, b1, b2, b3, ⟨no, nn, nc⟩, b5, ⟨xo, nx, xc⟩, ⟨ao, NA, ac⟩, ⟨oo, NO, oc⟩, rfl⟩ := inT_shape hI
  clear hI htp h1
  have HX := Hid.mk (tbx_new w (.bool b0) (.bool b1) (.bool b2) (.bool b3) (.slice no nn nc) (.bool b5) (.slice xo nx xc) (.slice ao NA ac) (.slice oo NO oc))
  obtain ⟨W0, hW0⟩ : ∃ W0, w.alloc (.cells #[.bool b0, .bool b1, .bool b2, .bool b3, .slice no nn nc, .bool b5, .slice xo nx xc, .slice ao NA ac, .slice oo NO oc] 27) = W0 := ⟨_, rfl⟩
  rw [hW0] at HX
  have hsz : W0.heap.size = w.heap.size + 1 := by rw [← hW0]; simp
  go_enter Try.func5, Try.ntmps5
  go_wp2_with fail
  have H1x := H1.out W0
  rw [hsz] at H1x
  refine H1x.mono ?_
  rintro e w1 ⟨rfl, hb1⟩
  have hb2 := (below1 W0 (.cells #[.slice none 0 0, .slice none 0 0, .slice none 0 0, .bool false, .bool false, .bool false, .bool false, .slice none 0 0, .bool false, .slice none 0 0, .slice none 0 0, .slice none 0 0] 37)).trans (hb1.mono (by simp))
  have HX1 := Hid.mk (HX.out.keep hb2)
  clear hb1 hb2 H1x H1 HX hsz hW0
  obtain ⟨_, q0, q1, q2, q3, q4, q5, q6, q7, q8, _⟩ := HX1.out
  have Q0 := fun d os => cell_regrown q0 d os
  have Q1 := fun d os => cell_regrown q1 d os
  have Q2 := fun d os => cell_regrown q2 d os
  have Q3 := fun d os => cell_regrown q3 d os
  have Q4 := fun d os => cell_regrown q4 d os
  have Q5 := fun d os => cell_regrown q5 d os
  have Q6 := fun d os => cell_regrown q6 d os
  have Q7 := fun d os => cell_regrown q7 d os
  have Q8 := fun d os => cell_regrown q8 d os
  have HF1 := Hid.mk (fun (d : Nat) (os : Array Obj) => HF.out (grow (redrawn w1 d) os) (HX1.out.below.trans ((below_regrown w1 d os).mono HX1.out.below.size)))
  have HM1 := Hid.mk (fun (d : Nat) (os : Array Obj) => HM.out (grow (redrawn w1 d) os) (HX1.out.below.trans ((below_regrown w1 d os).mono HX1.out.below.size)))
  have HP1 := Hid.mk (fun (d : Nat) (os : Array Obj) => HP.out (grow (redrawn w1 d) os) (HX1.out.below.trans ((below_regrown w1 d os).mono HX1.out.below.size)))
  have HR1 := Hid.mk (fun (d : Nat) (os : Array Obj) => HR.out (grow (redrawn w1 d) os) (HX1.out.below.trans ((below_regrown w1 d os).mono HX1.out.below.size)))
  clear HF HM HP HR
  go_wp2_with fail
  cases ft <;> cases fm
  all_goals
    refine wp_region_quiet_below (by kernel_rfl) (by kernel_rfl) ?_
    repeat (go_big_quiet_step (first | exact Calls.regrown_of (HF1.out _ _) | exact Calls.regrown_of (HM1.out _ _) | exact Calls.regrown_of (HP1.out _ _) | exact Calls.regrown_of (HR1.out _ _)))
    refine wpQuiet_nil ?_
    intro w9 hw'
    have hb9 : Below w1.heap.size w1 w9 := by
      obtain ⟨⟨dq, osq⟩, rfl⟩ := hw'
      exact below_regrown w1 dq osq
    have HX9 := Hid.mk (HX1.out.keep hb9)
    clear hw' hb9
    go_wp2_with fail
    go_ret
    exact ⟨by first | rfl | simp, HX9.out.below⟩
end Go.Proofs.Ythcohnnikmpjkaa
