import Derived.Test.YtfcbeohkhljboaaDoorM36
namespace Go.Proofs.YtfcbeohkhljboaaDoor
open Go.RowKit
set_option linter.unusedVariables false
set_option linter.unusedSimpArgs false

theorem sgn_mul (b1 b2 : Bool) (x1 x2 : Nat) : sgn (!(b1 == b2)) (x1 * x2) = sgn b1 x1 * sgn b2 x2 := by
  cases b1 <;> cases b2 <;> simp [sgn, Int.neg_mul, Int.mul_neg]

set_option maxRecDepth 100000 in
set_option maxHeartbeats 40000000 in
theorem w_times (b1 b2 : Bool) (v1 v2 : Value) (x1 x2 K : Nat) (w : World) (h1 : NumV w v1 x1) (h2 : NumV w v2 x2) (k1 : x1 < 1000000000 ^ K) (k2 : x2 < 1000000000 ^ K) (hK : K ≤ 137438953472) :
    Calls Tryd.prog 59 #[.agg #[.bool b1, v1], .agg #[.bool b2, v2]] w fun e w' => NumR w w' e (sgn b1 x1 * sgn b2 x2) := by
  obtain ⟨xs, g1, e1, l1⟩ := h1.fits k1
  obtain ⟨ys, g2, e2, l2⟩ := h2.fits k2
  have HP : Hid (∀ u, Below w.heap.size w u → Calls Tryd.prog 83 #[v1, v2] u fun e w' => ∃ ro rn rc, e = .returned (.slice ro rn rc) ∧ Hid (NumV w' (.slice ro rn rc) (x1 * x2)) ∧ Below u.heap.size u w') := by
    intro u hu
    refine (w_product (xs.length + ys.length) _ _ xs ys u (Nat.le_refl _) (by omega) (g1.1.keep hu) (g2.1.keep hu) g1.2.1 g2.2.1).mono ?_
    rintro e w' ⟨v, zs, rfl, hf, hv⟩
    obtain ⟨ro, rc, rfl, _⟩ := hf.1
    obtain ⟨n1, n2⟩ := fresh_num hf
    rw [hv, e1, e2] at n1
    exact ⟨ro, _, rc, rfl, n1, n2⟩
  obtain ⟨ao, ca, rfl, q1, q2⟩ := g1.1
  clear q1 q2
  obtain ⟨bo, cb, rfl, q1, q2⟩ := g2.1
  clear q1 q2 g1 g2 e1 e2 h1 h2 k1 k2
  have HI := (in3_box w b1 (.slice ao xs.length ca) b2 (.slice bo ys.length cb)).drew
  go_enter Tryd.func59, Tryd.ntmps59
  go_wp2_with fail
  go_region_with (go_at_call 83; refine (HP.out _ HI.below).mono ?_; rintro e w1 ⟨ro, rn, rc, rfl, HN, hb1⟩; have HJ := HI.keep hb1; have g00 := HJ.c00; have g10 := HJ.c10; have g20 := HJ.c20; have g21 := HJ.c21; have q20 := HJ.f20; have q21 := HJ.f21)
  all_goals obtain ⟨r0, r1, r2, r3⟩ := fill (bl := (b1 != b2)) HJ.below (by omega) g20 g21 (by simp) HN.out
  all_goals go_wp2_with fail
  all_goals simp only [bne] at r0 r1 r2 r3 ⊢
  all_goals generalize hq : (!(b1 == b2)) = bb at r0 r1 r2 r3 ⊢
  all_goals refine bodyPost_ret (v := .agg #[.bool bb, .slice ro rn rc]) (by simp [results, Tryd.results59, go_sem, r0, r1]) rfl ?_
  all_goals refine ⟨bb, _, _, rfl, r2, ?_, r3⟩
  all_goals (rw [← hq]; exact sgn_mul b1 b2 x1 x2)

end Go.Proofs.YtfcbeohkhljboaaDoor
