import Derived.Test.YthcohnnikmpjkaaTY4
namespace Go.Proofs.Ythcohnnikmpjkaa
open Go.RowKit Go.Shelf Go.Sort
set_option linter.unusedVariables false
set_option linter.unusedSimpArgs false
attribute [local go_sem] Oper.semAt_some

set_option maxRecDepth 100000 in
set_option maxHeartbeats 1600000 in
theorem w_FitType (h : Nat) (T : TT) (v : Value) (w : World) (hI : InT w h T v) (htp : tpN h T ≤ 1048576) : Calls Try.prog 7 #[v] w fun e w' => e = .returned (.bool (decide (tpN h T ≤ 20000))) ∧ Below w.heap.size w w' := by
  have HC := Hid.mk (fun u (hu : Below w.heap.size w u) => w_typeParts h T v u 20000 (hI.keep hu) htp (by omega) (by omega))
  have hfd := fit_dec h T
  obtain ⟨p, hp⟩ : ∃ p, ptF h T 20000 = p := ⟨_, rfl⟩
  have hpl := pt_le h T 20000
  rw [hp] at HC hfd hpl
  have hp0 : 0 ≤ p := hpl.1
  have hp1 : p ≤ 1048576 := by have := hpl.2; omega
  rw [← hfd]
  obtain ⟨a, b, c, d, e, f, g, i, j, rfl⟩ := inT_shape hI
  obtain ⟨⟨eo, en, ec⟩, heq⟩ : ∃ x, x = e := ⟨_, rfl⟩
  obtain ⟨⟨go, gn, gc⟩, hgq⟩ : ∃ x, x = g := ⟨_, rfl⟩
  obtain ⟨⟨io, inn, ic⟩, hiq⟩ : ∃ x, x = i := ⟨_, rfl⟩
  obtain ⟨⟨jo, jn, jc⟩, hjq⟩ : ∃ x, x = j := ⟨_, rfl⟩
  subst heq hgq hiq hjq
  dsimp only at HC ⊢
  have HX := Hid.mk (tbx_new w (.bool a) (.bool b) (.bool c) (.bool d) (.slice eo en ec) (.bool f) (.slice go gn gc) (.slice io inn ic) (.slice jo jn jc))
  obtain ⟨W0, hW0⟩ : ∃ W0, w.alloc (.cells #[.bool a, .bool b, .bool c, .bool d, .slice eo en ec, .bool f, .slice go gn gc, .slice io inn ic, .slice jo jn jc] 27) = W0 := ⟨_, rfl⟩
  rw [hW0] at HX
  obtain ⟨_, c0, c1, c2, c3, c4, c5, c6, c7, c8, _⟩ := HX.out
  clear hI htp hp hpl hfd
  go_enter Try.func7, Try.ntmps7
  go_wp2_with fail
  refine (HC.out _ HX.out.below).mono ?_
  rintro e w1 ⟨rfl, hb1⟩
  have HX1 := Hid.mk (HX.out.keep hb1)
  clear hb1 c0 c1 c2 c3 c4 c5 c6 c7 c8 hW0
  go_wp2_with fail
  go_ret
  exact ⟨by first | rfl | simp, HX1.out.below⟩
end Go.Proofs.Ythcohnnikmpjkaa
