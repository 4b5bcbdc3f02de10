import Derived.Test.YtfcbeohkhljboaaDoorM30
namespace Go.Proofs.YtfcbeohkhljboaaDoor
open Go.RowKit
set_option linter.unusedVariables false
set_option linter.unusedSimpArgs false

set_option maxRecDepth 100000 in
set_option maxHeartbeats 800000 in
theorem w_plus_same (b1 b2 : Bool) (v1 v2 : Value) (x1 x2 K : Nat) (w : World) (h1 : NumV w v1 x1) (h2 : NumV w v2 x2) (k1 : x1 < 1000000000 ^ K) (k2 : x2 < 1000000000 ^ K) (hK : K ≤ 274877906944) (hb : b1 = b2) :
    Calls Tryd.prog 56 #[.agg #[.bool b1, v1], .agg #[.bool b2, v2]] w fun e w' => NumR w w' e (sgn b1 x1 + sgn b2 x2) := by
  obtain ⟨xs, g1, e1, l1⟩ := h1.fits k1
  obtain ⟨ys, g2, e2, l2⟩ := h2.fits k2
  clear h1 h2 k1 k2
  have G1 := Hid.mk g1
  have G2 := Hid.mk g2
  obtain ⟨ao, ca, rfl, q1, q2⟩ := g1.1
  clear q1 q2
  obtain ⟨bo, cb, rfl, q1, q2⟩ := g2.1
  clear q1 q2
  have E1 := Hid.mk e1
  have E2 := Hid.mk e2
  have hm1 : xs.length ≤ maxLen := by unfold maxLen; omega
  have hm2 : ys.length ≤ maxLen := by unfold maxLen; omega
  clear g1 g2 e1 e2
  subst hb
  have hbb : (b1 == b1) = true := by simp
  have HS : Hid (∀ u, Below w.heap.size w u → Calls Tryd.prog 75 #[.slice ao xs.length ca, .slice bo ys.length cb] u fun e w' => ∃ ro rn rc, e = .returned (.slice ro rn rc) ∧ Hid (NumV w' (.slice ro rn rc) (x1 + x2)) ∧ Below u.heap.size u w') := by
    intro u hu
    refine (w_sum _ _ xs ys u (G1.out.1.keep hu) (G2.out.1.keep hu) (by omega) (by omega) G1.out.2.1 G2.out.2.1).mono ?_
    rintro e w' ⟨v, zs, rfl, hf, hv⟩
    obtain ⟨ro, rc, rfl, _⟩ := hf.1
    obtain ⟨n1, n2⟩ := fresh_num hf
    refine ⟨ro, _, rc, rfl, ?_, n2⟩
    rw [hv, E1.out, E2.out] at n1
    exact n1
  have HI := (in3_box w b1 (.slice ao xs.length ca) b1 (.slice bo ys.length cb)).drew
  go_enter Tryd.func56, Tryd.ntmps56
  go_wp2_with fail
  go_region_with (go_at_call 75; refine (HS.out _ HI.below).mono ?_; rintro e w1 ⟨ro, rn, rc, rfl, HN, hb1⟩; have HJ := HI.keep hb1; have g00 := HJ.c00; have g20 := HJ.c20; have g21 := HJ.c21; have q20 := HJ.f20; have q21 := HJ.f21; have HJ' := Hid.mk HJ; clear HJ)
  all_goals obtain ⟨r0, r1, r2, r3⟩ := fill (bl := b1) HJ'.out.below (by omega) g20 g21 (by simp) HN.out
  all_goals go_wp2_with fail
  all_goals refine bodyPost_ret (v := .agg #[.bool b1, .slice ro rn rc]) (by simp [results, Tryd.results56, go_sem, r0, r1]) rfl ?_
  all_goals refine ⟨b1, _, _, rfl, r2, ?_, r3⟩
  all_goals (cases b1 <;> simp [sgn] <;> omega)

set_option maxRecDepth 100000 in
set_option maxHeartbeats 800000 in
theorem w_plus_less (b1 b2 : Bool) (v1 v2 : Value) (x1 x2 K : Nat) (w : World) (h1 : NumV w v1 x1) (h2 : NumV w v2 x2) (k1 : x1 < 1000000000 ^ K) (k2 : x2 < 1000000000 ^ K) (hK : K ≤ 274877906944) (hb : b1 ≠ b2) (hlt : x1 < x2) :
    Calls Tryd.prog 56 #[.agg #[.bool b1, v1], .agg #[.bool b2, v2]] w fun e w' => NumR w w' e (sgn b1 x1 + sgn b2 x2) := by
  obtain ⟨xs, g1, e1, l1⟩ := h1.fits k1
  obtain ⟨ys, g2, e2, l2⟩ := h2.fits k2
  clear h1 h2 k1 k2
  have G1 := Hid.mk g1
  have G2 := Hid.mk g2
  obtain ⟨ao, ca, rfl, q1, q2⟩ := g1.1
  clear q1 q2
  obtain ⟨bo, cb, rfl, q1, q2⟩ := g2.1
  clear q1 q2
  have E1 := Hid.mk e1
  have E2 := Hid.mk e2
  have hm1 : xs.length ≤ maxLen := by unfold maxLen; omega
  have hm2 : ys.length ≤ maxLen := by unfold maxLen; omega
  clear g1 g2 e1 e2
  have hbb : (b1 == b2) = false := by simp [hb]
  have HI := Hid.mk (in3_box w b1 (.slice ao xs.length ca) b2 (.slice bo ys.length cb))
  have HC : Hid (∀ u, Below w.heap.size w u → Calls Tryd.prog 76 #[.slice ao xs.length ca, .slice bo ys.length cb] u fun e w' => e = .returned (.int .i64 (Pl.cmpI x1 x2)) ∧ Below u.heap.size u w') := by
    intro u hu
    rw [← E1.out, ← E2.out]
    exact w_compare _ _ xs ys u (G1.out.1.keep hu) (G2.out.1.keep hu) hm1 hm2 G1.out.2.1 G2.out.2.1 G1.out.2.2 G2.out.2.2
  have hcm : Pl.cmpI x1 x2 = -1 := Pl.cmp_less hlt
  go_enter Tryd.func56, Tryd.ntmps56
  go_wp2_with fail
  refine (HC.out _ HI.out.below).mono ?_
  rintro e w1 ⟨rfl, hb1⟩
  rw [hcm]
  have HJ := HI.out.keep hb1
  have g00 := HJ.c00
  have g01 := HJ.c01
  have g10 := HJ.c10
  have g11 := HJ.c11
  have q00 := HJ.f00
  have q01 := HJ.f01
  have q10 := HJ.f10
  have q11 := HJ.f11
  have HK := HJ.swap
  clear HJ
  go_wp2_with fail
  obtain ⟨w4, hw4⟩ : ∃ w4, w4 = ((((w1.setCell ⟨w.heap.size, 0, none⟩ (.bool b2)).setCell ⟨w.heap.size, 1, none⟩ (.slice bo ys.length cb)).setCell ⟨w.heap.size + 1, 0, none⟩ (.bool b1)).setCell ⟨w.heap.size + 1, 1, none⟩ (.slice ao xs.length ca)) := ⟨_, rfl⟩
  rw [← hw4] at HK ⊢
  clear hw4 g00 g01 g10 g11 q00 q01 q10 q11
  have g00 := HK.c00
  have g01 := HK.c01
  have g11 := HK.c11
  have HK' := Hid.mk HK.drew
  clear HK
  have HD := Hid.mk (diff_any G2.out G1.out l2 hK (by rw [E1.out, E2.out]; omega))
  go_region_with (go_at_call 80; refine (HD.out _ HK'.out.below).mono ?_; rintro e w5 ⟨ro, rn, rc, rfl, HN, hb5⟩; have HJ5 := HK'.out.keep hb5; have g00 := HJ5.c00; have g20 := HJ5.c20; have g21 := HJ5.c21; have q20 := HJ5.f20; have q21 := HJ5.f21; have HL := Hid.mk HJ5; clear HJ5)
  all_goals obtain ⟨r0, r1, r2, r3⟩ := fill (bl := b2) HL.out.below (by omega) g20 g21 (by simp) HN.out
  all_goals go_wp2_with fail
  all_goals refine bodyPost_ret (v := .agg #[.bool b2, .slice ro rn rc]) (by simp [results, Tryd.results56, go_sem, r0, r1]) rfl ?_
  all_goals refine ⟨b2, _, _, rfl, r2, ?_, r3⟩
  all_goals rw [E1.out, E2.out]
  all_goals (cases b1 <;> cases b2 <;> simp [sgn] at hb ⊢ <;> omega)

set_option maxRecDepth 100000 in
set_option maxHeartbeats 800000 in
theorem w_plus_more (b1 b2 : Bool) (v1 v2 : Value) (x1 x2 K : Nat) (w : World) (h1 : NumV w v1 x1) (h2 : NumV w v2 x2) (k1 : x1 < 1000000000 ^ K) (k2 : x2 < 1000000000 ^ K) (hK : K ≤ 274877906944) (hb : b1 ≠ b2) (hlt : ¬ x1 < x2) :
    Calls Tryd.prog 56 #[.agg #[.bool b1, v1], .agg #[.bool b2, v2]] w fun e w' => NumR w w' e (sgn b1 x1 + sgn b2 x2) := by
  obtain ⟨xs, g1, e1, l1⟩ := h1.fits k1
  obtain ⟨ys, g2, e2, l2⟩ := h2.fits k2
  clear h1 h2 k1 k2
  have G1 := Hid.mk g1
  have G2 := Hid.mk g2
  obtain ⟨ao, ca, rfl, q1, q2⟩ := g1.1
  clear q1 q2
  obtain ⟨bo, cb, rfl, q1, q2⟩ := g2.1
  clear q1 q2
  have E1 := Hid.mk e1
  have E2 := Hid.mk e2
  have hm1 : xs.length ≤ maxLen := by unfold maxLen; omega
  have hm2 : ys.length ≤ maxLen := by unfold maxLen; omega
  clear g1 g2 e1 e2
  have hbb : (b1 == b2) = false := by simp [hb]
  have HI := Hid.mk (in3_box w b1 (.slice ao xs.length ca) b2 (.slice bo ys.length cb))
  have HC : Hid (∀ u, Below w.heap.size w u → Calls Tryd.prog 76 #[.slice ao xs.length ca, .slice bo ys.length cb] u fun e w' => e = .returned (.int .i64 (Pl.cmpI x1 x2)) ∧ Below u.heap.size u w') := by
    intro u hu
    rw [← E1.out, ← E2.out]
    exact w_compare _ _ xs ys u (G1.out.1.keep hu) (G2.out.1.keep hu) hm1 hm2 G1.out.2.1 G2.out.2.1 G1.out.2.2 G2.out.2.2
  have hcm : ¬ Pl.cmpI x1 x2 < 0 := by
    rcases Nat.lt_or_ge x2 x1 with h | h
    · rw [Pl.cmp_more h]; decide
    · rw [Pl.cmp_eq (by omega)]; decide
  have hcd := Pl.cmpI_bd (x1 : Int) (x2 : Int)
  go_enter Tryd.func56, Tryd.ntmps56
  go_wp2_with fail
  refine (HC.out _ HI.out.below).mono ?_
  rintro e w1 ⟨rfl, hb1⟩
  have HJ := HI.out.keep hb1
  have g00 := HJ.c00
  have g01 := HJ.c01
  have g10 := HJ.c10
  have g11 := HJ.c11
  have HK' := Hid.mk HJ.drew
  clear HJ
  have HD := Hid.mk (diff_any G1.out G2.out l1 hK (by rw [E1.out, E2.out]; omega))
  go_wp2_with fail
  clear g10
  go_region_with (go_at_call 80; refine (HD.out _ HK'.out.below).mono ?_; rintro e w5 ⟨ro, rn, rc, rfl, HN, hb5⟩; have HJ5 := HK'.out.keep hb5; have g00 := HJ5.c00; have g20 := HJ5.c20; have g21 := HJ5.c21; have q20 := HJ5.f20; have q21 := HJ5.f21; have HL := Hid.mk HJ5; clear HJ5)
  all_goals obtain ⟨r0, r1, r2, r3⟩ := fill (bl := b1) HL.out.below (by omega) g20 g21 (by simp) HN.out
  all_goals go_wp2_with fail
  all_goals refine bodyPost_ret (v := .agg #[.bool b1, .slice ro rn rc]) (by simp [results, Tryd.results56, go_sem, r0, r1]) rfl ?_
  all_goals refine ⟨b1, _, _, rfl, r2, ?_, r3⟩
  all_goals rw [E1.out, E2.out]
  all_goals (cases b1 <;> cases b2 <;> simp [sgn] at hb ⊢ <;> omega)

theorem w_plus (b1 b2 : Bool) (v1 v2 : Value) (x1 x2 K : Nat) (w : World) (h1 : NumV w v1 x1) (h2 : NumV w v2 x2) (k1 : x1 < 1000000000 ^ K) (k2 : x2 < 1000000000 ^ K) (hK : K ≤ 274877906944) :
    Calls Tryd.prog 56 #[.agg #[.bool b1, v1], .agg #[.bool b2, v2]] w fun e w' => NumR w w' e (sgn b1 x1 + sgn b2 x2) := by
  by_cases hb : b1 = b2
  · exact w_plus_same b1 b2 v1 v2 x1 x2 K w h1 h2 k1 k2 hK hb
  · by_cases hlt : x1 < x2
    · exact w_plus_less b1 b2 v1 v2 x1 x2 K w h1 h2 k1 k2 hK hb hlt
    · exact w_plus_more b1 b2 v1 v2 x1 x2 K w h1 h2 k1 k2 hK hb hlt
end Go.Proofs.YtfcbeohkhljboaaDoor
