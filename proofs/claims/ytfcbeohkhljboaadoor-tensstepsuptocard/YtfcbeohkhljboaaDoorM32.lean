import Derived.Test.YtfcbeohkhljboaaDoorM31
namespace Go.Proofs.YtfcbeohkhljboaaDoor
open Go.RowKit
set_option linter.unusedVariables false
set_option linter.unusedSimpArgs false

set_option maxRecDepth 100000 in
set_option maxHeartbeats 1600000 in
theorem w_radd_less (b1 b2 : Bool) (v1 v2 : Value) (x1 x2 K : Nat) (w : World) (h1 : RV w v1 x1) (h2 : RV w v2 x2) (k1 : x1 < 10 ^ K) (k2 : x2 < 10 ^ K) (hK : K ≤ 549755813888) (hb : b1 ≠ b2) (hlt : x1 < x2) :
    Calls Tryd.prog 57 #[.agg #[.bool b1, v1], .agg #[.bool b2, v2]] w fun e w' => RN w w' e (sgn b1 x1 + sgn b2 x2) := by
  have HC := Hid.mk (rsize_any h1 h2 k1 k2 hK)
  have HD := Hid.mk (rrest_any h2 h1 k2 (by omega) hK)
  obtain ⟨ao, na, ca, hv⟩ : ∃ ao na ca, v1 = .slice ao na ca := by obtain ⟨_, ⟨ao, ca, rfl, _⟩, _⟩ := h1; exact ⟨ao, _, ca, rfl⟩
  subst hv
  obtain ⟨bo, nb, cb, hv⟩ : ∃ ao na ca, v2 = .slice ao na ca := by obtain ⟨_, ⟨ao, ca, rfl, _⟩, _⟩ := h2; exact ⟨ao, _, ca, rfl⟩
  subst hv
  clear h1 h2 k1 k2
  have hbb : (b1 == b2) = false := by simp [hb]
  have HB := Hid.mk hb
  have HLT := Hid.mk hlt
  obtain ⟨cm, hcm, hcv⟩ : ∃ cm : Int, Pl.cmpI x1 x2 = cm ∧ cm < 0 := ⟨_, rfl, by unfold Pl.cmpI; split <;> first | omega | (split <;> omega)⟩
  have HCM := Hid.mk hcm
  clear hb hlt hcm
  have HI := Hid.mk (in3_rbox w b1 (.slice ao na ca) b2 (.slice bo nb cb))
  go_enter Tryd.func57, Tryd.ntmps57
  go_wp2_with fail
  refine (HC.out _ HI.out.below).mono ?_
  rintro e w0 ⟨rfl, hb0⟩
  rw [HCM.out]
  have HJ0 := HI.out.keep hb0
  have g00 := HJ0.c00
  have g01 := HJ0.c01
  have g10 := HJ0.c10
  have g11 := HJ0.c11
  have HJ1 := Hid.mk HJ0.drew
  clear HJ0
  go_wp2_with fail
  go_region_with (first | (go_at_call 82; refine (HD.out _ HJ1.out.below).mono ?_; rintro e w1 ⟨so, sn, sc, rfl, HN, hb1⟩; have HJ := HJ1.out.keep hb1; have gx0 := HJ.c10) | (go_at_call 46; refine (w_trimR b2 _ _ _ HN.out).mono ?_; rintro e w2 ⟨ro, rn, rc, rfl, HV, hb2⟩; have HK := HJ.keep hb2; have g20 := HK.c20; have g21 := HK.c21; have q20 := HK.f20; have q21 := HK.f21; have HK' := Hid.mk HK; clear HK))
  all_goals generalize hfl : (b2 && decide (0 < x2 - x1)) = bl
  all_goals have HFL := Hid.mk hfl
  all_goals clear hfl
  all_goals obtain ⟨r0, r1, r2, r3⟩ := rfill (bl := bl) HK'.out.below (by omega) g20 g21 (by simp) HV.out
  all_goals go_wp2_with fail
  all_goals refine bodyPost_ret (v := .agg #[.bool bl, .slice ro rn rc]) (by simp [results, Tryd.results57, go_sem, r0, r1]) rfl ?_
  all_goals exact ⟨bl, _, _, _, _, rfl, r2, flag_sgn HFL.out (sgn_less HB.out HLT.out), flag_pos HFL.out, r3⟩

end Go.Proofs.YtfcbeohkhljboaaDoor
