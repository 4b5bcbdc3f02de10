import Derived.Test.YtfcbeohkhljboaaDoorM34
namespace Go.Proofs.YtfcbeohkhljboaaDoor
open Go.RowKit
set_option linter.unusedVariables false
set_option linter.unusedSimpArgs false

/-! The reference's sum once more, with its digits' place: new memory. -/
def Frs (u : World) (v : Value) : Prop := ∀ g, v.ownBlock = some g → u.heap.size ≤ g
def RNF (w w' : World) (e : Ending) (z : Int) : Prop := ∃ bl ro rn rc x, e = .returned (.agg #[.bool bl, .slice ro rn rc]) ∧ Hid (RV w' (.slice ro rn rc) x) ∧ Hid (sgn bl x = z) ∧ Hid (bl = true → 0 < x) ∧ Below w.heap.size w w' ∧ Hid (Frs w (.slice ro rn rc))
theorem Frs.own {u w : World} {ao : Option Addr} {n c n' c' : Nat} (h : Frs u (.slice ao n c)) (hs : w.heap.size ≤ u.heap.size) : Frs w (.slice ao n' c') := fun g hg => by
  have := h g (by cases ao <;> simp_all [Value.ownBlock])
  omega

theorem rsum_anyF {w : World} {v1 v2 : Value} {x1 x2 K : Nat} (h1 : RV w v1 x1) (h2 : RV w v2 x2) (k1 : x1 < 10 ^ K) (k2 : x2 < 10 ^ K) (hK : K ≤ 549755813888) (u : World) (hu : Below w.heap.size w u) :
    Calls Tryd.prog 81 #[v1, v2] u fun e w' => ∃ ro rn rc, e = .returned (.slice ro rn rc) ∧ Hid (RU w' (.slice ro rn rc) (x1 + x2)) ∧ Below u.heap.size u w' ∧ Hid (Frs u (.slice ro rn rc)) := by
  obtain ⟨xs, a1, a2, a3, a4, a5⟩ := h1.fits k1
  obtain ⟨ys, b1, b2, b3, b4, b5⟩ := h2.fits k2
  refine (w_rsum v1 v2 xs ys u (a1.keep hu) (b1.keep hu) (by omega) (by omega) a2 b2).mono ?_
  rintro e w' ⟨ro, rn, rc, zs, rfl, hf, hv, hl⟩
  exact ⟨ro, rn, rc, rfl, ⟨zs, hf.1, hf.2.1, by rw [hv, a4, b4], by omega⟩, hf.2.2.1, hf.2.2.2⟩

theorem rrest_anyF {w : World} {v1 v2 : Value} {x1 x2 K : Nat} (h1 : RV w v1 x1) (h2 : RV w v2 x2) (k1 : x1 < 10 ^ K) (hle : x2 ≤ x1) (hK : K ≤ 549755813888) (u : World) (hu : Below w.heap.size w u) :
    Calls Tryd.prog 82 #[v1, v2] u fun e w' => ∃ ro rn rc, e = .returned (.slice ro rn rc) ∧ Hid (RU w' (.slice ro rn rc) (x1 - x2)) ∧ Below u.heap.size u w' ∧ Hid (Frs u (.slice ro rn rc)) := by
  obtain ⟨xs, a1, a2, a3, a4, a5⟩ := h1.fits k1
  obtain ⟨ys, b1, b2, b3, b4⟩ := h2
  have hll : ys.length ≤ xs.length := by
    rcases Nat.lt_or_ge xs.length ys.length with h | h
    · have := Pl.val_lt_of_len (by decide) a2 b3 h; omega
    · exact h
  refine (w_rrest v1 v2 xs ys u (a1.keep hu) (b1.keep hu) (by omega) hll a2 b2 (by omega)).mono ?_
  rintro e w' ⟨ro, rn, rc, zs, rfl, hf, hv, hl⟩
  exact ⟨ro, rn, rc, rfl, ⟨zs, hf.1, hf.2.1, by omega, by omega⟩, hf.2.2.1, hf.2.2.2⟩

theorem w_trimRF (bl : Bool) (ao : Option Addr) (an ac x : Nat) (w : World) (h : RU w (.slice ao an ac) x) :
    Calls Tryd.prog 46 #[.agg #[.bool bl, .slice ao an ac]] w fun e w' => ∃ rn rc, e = .returned (.agg #[.bool (bl && decide (0 < x)), .slice ao rn rc]) ∧ Hid (RV w' (.slice ao rn rc) x) ∧ Below w.heap.size w w' := by
  obtain ⟨zs, h1, h2, h3, h4⟩ := h
  refine (w_trim bl _ zs w h1 (by unfold maxLen; omega)).mono ?_
  rintro e w' ⟨rfl, hb⟩
  obtain ⟨ao', cap, hv, q⟩ := id h1
  cases hv
  refine ⟨(Pl.trimN zs).length, ac, ?_, ?_, hb⟩
  · rw [trim_some zs h2, h3]; rfl
  · exact ⟨Pl.trimN zs, (h1.keep hb).trim, Pl.dig_trim h2, Pl.top_trim _, by rw [Pl.val_trim]; exact h3⟩

set_option maxRecDepth 100000 in
set_option maxHeartbeats 1600000 in
theorem w_radd_sameF (b1 : Bool) (v1 v2 : Value) (x1 x2 K : Nat) (w : World) (h1 : RV w v1 x1) (h2 : RV w v2 x2) (k1 : x1 < 10 ^ K) (k2 : x2 < 10 ^ K) (hK : K ≤ 549755813888) :
    Calls Tryd.prog 57 #[.agg #[.bool b1, v1], .agg #[.bool b1, v2]] w fun e w' => RNF w w' e (sgn b1 x1 + sgn b1 x2) := by
  have HS := Hid.mk (rsum_anyF h1 h2 k1 k2 hK)
  obtain ⟨ao, na, ca, hv⟩ : ∃ ao na ca, v1 = .slice ao na ca := by obtain ⟨_, ⟨ao, ca, rfl, _⟩, _⟩ := h1; exact ⟨ao, _, ca, rfl⟩
  subst hv
  obtain ⟨bo, nb, cb, hv⟩ : ∃ ao na ca, v2 = .slice ao na ca := by obtain ⟨_, ⟨ao, ca, rfl, _⟩, _⟩ := h2; exact ⟨ao, _, ca, rfl⟩
  subst hv
  clear h1 h2 k1 k2
  have hbb : (b1 == b1) = true := by simp
  have HI := (in3_rbox w b1 (.slice ao na ca) b1 (.slice bo nb cb)).drew
  go_enter Tryd.func57, Tryd.ntmps57
  go_wp2_with fail
  go_region_with (first | (go_at_call 81; refine (HS.out _ HI.below).mono ?_; rintro e w1 ⟨so, sn, sc, rfl, HN, hb1, HFR⟩; have HJ := HI.keep hb1; have g00 := HJ.c00) | (go_at_call 46; refine (w_trimRF b1 _ _ _ _ _ HN.out).mono ?_; rintro e w2 ⟨rn, rc, rfl, HV, hb2⟩; have HK := HJ.keep hb2; have g20 := HK.c20; have g21 := HK.c21; have q20 := HK.f20; have q21 := HK.f21; have HK' := Hid.mk HK; clear HK))
  all_goals generalize hfl : (b1 && decide (0 < x1 + x2)) = bl
  all_goals have HFL := Hid.mk hfl
  all_goals clear hfl
  all_goals obtain ⟨r0, r1, r2, r3⟩ := rfill (bl := bl) HK'.out.below (by omega) g20 g21 (by simp) HV.out
  all_goals go_wp2_with fail
  all_goals refine bodyPost_ret (v := .agg #[.bool bl, .slice so rn rc]) (by simp [results, Tryd.results57, go_sem, r0, r1]) rfl ?_
  all_goals exact ⟨bl, _, _, _, _, rfl, r2, flag_sgn HFL.out (sgn_same _ _ _), flag_pos HFL.out, r3, HFR.out.own (by first | exact HI.below.size | exact HJ1.out.below.size)⟩

set_option maxRecDepth 100000 in
set_option maxHeartbeats 1600000 in
theorem w_radd_lessF (b1 b2 : Bool) (v1 v2 : Value) (x1 x2 K : Nat) (w : World) (h1 : RV w v1 x1) (h2 : RV w v2 x2) (k1 : x1 < 10 ^ K) (k2 : x2 < 10 ^ K) (hK : K ≤ 549755813888) (hb : b1 ≠ b2) (hlt : x1 < x2) :
    Calls Tryd.prog 57 #[.agg #[.bool b1, v1], .agg #[.bool b2, v2]] w fun e w' => RNF w w' e (sgn b1 x1 + sgn b2 x2) := by
  have HC := Hid.mk (rsize_any h1 h2 k1 k2 hK)
  have HD := Hid.mk (rrest_anyF h2 h1 k2 (by omega) hK)
  obtain ⟨ao, na, ca, hv⟩ : ∃ ao na ca, v1 = .slice ao na ca := by obtain ⟨_, ⟨ao, ca, rfl, _⟩, _⟩ := h1; exact ⟨ao, _, ca, rfl⟩
  subst hv
  obtain ⟨bo, nb, cb, hv⟩ : ∃ ao na ca, v2 = .slice ao na ca := by obtain ⟨_, ⟨ao, ca, rfl, _⟩, _⟩ := h2; exact ⟨ao, _, ca, rfl⟩
  subst hv
  clear h1 h2 k1 k2
  have hbb : (b1 == b2) = false := by simp [hb]
  have HB := Hid.mk hb
  have HLT := Hid.mk hlt
  obtain ⟨cm, hcm, hcv⟩ : ∃ cm : Int, Pl.cmpI x1 x2 = cm ∧ cm < 0 := ⟨_, rfl, by unfold Pl.cmpI; split <;> first | omega | (split <;> omega)⟩
  have HCM := Hid.mk hcm
  clear hb hlt hcm
  have HI := Hid.mk (in3_rbox w b1 (.slice ao na ca) b2 (.slice bo nb cb))
  go_enter Tryd.func57, Tryd.ntmps57
  go_wp2_with fail
  refine (HC.out _ HI.out.below).mono ?_
  rintro e w0 ⟨rfl, hb0⟩
  rw [HCM.out]
  have HJ0 := HI.out.keep hb0
  have g00 := HJ0.c00
  have g01 := HJ0.c01
  have g10 := HJ0.c10
  have g11 := HJ0.c11
  have HJ1 := Hid.mk HJ0.drew
  clear HJ0
  go_wp2_with fail
  go_region_with (first | (go_at_call 82; refine (HD.out _ HJ1.out.below).mono ?_; rintro e w1 ⟨so, sn, sc, rfl, HN, hb1, HFR⟩; have HJ := HJ1.out.keep hb1; have gx0 := HJ.c10) | (go_at_call 46; refine (w_trimRF b2 _ _ _ _ _ HN.out).mono ?_; rintro e w2 ⟨rn, rc, rfl, HV, hb2⟩; have HK := HJ.keep hb2; have g20 := HK.c20; have g21 := HK.c21; have q20 := HK.f20; have q21 := HK.f21; have HK' := Hid.mk HK; clear HK))
  all_goals generalize hfl : (b2 && decide (0 < x2 - x1)) = bl
  all_goals have HFL := Hid.mk hfl
  all_goals clear hfl
  all_goals obtain ⟨r0, r1, r2, r3⟩ := rfill (bl := bl) HK'.out.below (by omega) g20 g21 (by simp) HV.out
  all_goals go_wp2_with fail
  all_goals refine bodyPost_ret (v := .agg #[.bool bl, .slice so rn rc]) (by simp [results, Tryd.results57, go_sem, r0, r1]) rfl ?_
  all_goals exact ⟨bl, _, _, _, _, rfl, r2, flag_sgn HFL.out (sgn_less HB.out HLT.out), flag_pos HFL.out, r3, HFR.out.own (by first | exact HI.below.size | exact HJ1.out.below.size)⟩

set_option maxRecDepth 100000 in
set_option maxHeartbeats 1600000 in
theorem w_radd_moreF (b1 b2 : Bool) (v1 v2 : Value) (x1 x2 K : Nat) (w : World) (h1 : RV w v1 x1) (h2 : RV w v2 x2) (k1 : x1 < 10 ^ K) (k2 : x2 < 10 ^ K) (hK : K ≤ 549755813888) (hb : b1 ≠ b2) (hlt : ¬ x1 < x2) :
    Calls Tryd.prog 57 #[.agg #[.bool b1, v1], .agg #[.bool b2, v2]] w fun e w' => RNF w w' e (sgn b1 x1 + sgn b2 x2) := by
  have HC := Hid.mk (rsize_any h1 h2 k1 k2 hK)
  have HD := Hid.mk (rrest_anyF h1 h2 k1 (by omega) hK)
  obtain ⟨ao, na, ca, hv⟩ : ∃ ao na ca, v1 = .slice ao na ca := by obtain ⟨_, ⟨ao, ca, rfl, _⟩, _⟩ := h1; exact ⟨ao, _, ca, rfl⟩
  subst hv
  obtain ⟨bo, nb, cb, hv⟩ : ∃ ao na ca, v2 = .slice ao na ca := by obtain ⟨_, ⟨ao, ca, rfl, _⟩, _⟩ := h2; exact ⟨ao, _, ca, rfl⟩
  subst hv
  clear h1 h2 k1 k2
  have hbb : (b1 == b2) = false := by simp [hb]
  have HB := Hid.mk hb
  have HLT := Hid.mk hlt
  obtain ⟨cm, hcm, hcv⟩ : ∃ cm : Int, Pl.cmpI x1 x2 = cm ∧ ¬ cm < 0 := ⟨_, rfl, by unfold Pl.cmpI; split <;> first | omega | (split <;> omega)⟩
  have HCM := Hid.mk hcm
  clear hb hlt hcm
  have HI := Hid.mk (in3_rbox w b1 (.slice ao na ca) b2 (.slice bo nb cb))
  go_enter Tryd.func57, Tryd.ntmps57
  go_wp2_with fail
  refine (HC.out _ HI.out.below).mono ?_
  rintro e w0 ⟨rfl, hb0⟩
  rw [HCM.out]
  have HJ0 := HI.out.keep hb0
  have g00 := HJ0.c00
  have g01 := HJ0.c01
  have g10 := HJ0.c10
  have g11 := HJ0.c11
  have HJ1 := Hid.mk HJ0.drew
  clear HJ0
  go_wp2_with fail
  go_region_with (first | (go_at_call 82; refine (HD.out _ HJ1.out.below).mono ?_; rintro e w1 ⟨so, sn, sc, rfl, HN, hb1, HFR⟩; have HJ := HJ1.out.keep hb1; have gx0 := HJ.c00) | (go_at_call 46; refine (w_trimRF b1 _ _ _ _ _ HN.out).mono ?_; rintro e w2 ⟨rn, rc, rfl, HV, hb2⟩; have HK := HJ.keep hb2; have g20 := HK.c20; have g21 := HK.c21; have q20 := HK.f20; have q21 := HK.f21; have HK' := Hid.mk HK; clear HK))
  all_goals generalize hfl : (b1 && decide (0 < x1 - x2)) = bl
  all_goals have HFL := Hid.mk hfl
  all_goals clear hfl
  all_goals obtain ⟨r0, r1, r2, r3⟩ := rfill (bl := bl) HK'.out.below (by omega) g20 g21 (by simp) HV.out
  all_goals go_wp2_with fail
  all_goals refine bodyPost_ret (v := .agg #[.bool bl, .slice so rn rc]) (by simp [results, Tryd.results57, go_sem, r0, r1]) rfl ?_
  all_goals exact ⟨bl, _, _, _, _, rfl, r2, flag_sgn HFL.out (sgn_more HB.out HLT.out), flag_pos HFL.out, r3, HFR.out.own (by first | exact HI.below.size | exact HJ1.out.below.size)⟩

theorem w_raddF (b1 b2 : Bool) (v1 v2 : Value) (x1 x2 K : Nat) (w : World) (h1 : RV w v1 x1) (h2 : RV w v2 x2) (k1 : x1 < 10 ^ K) (k2 : x2 < 10 ^ K) (hK : K ≤ 549755813888) :
    Calls Tryd.prog 57 #[.agg #[.bool b1, v1], .agg #[.bool b2, v2]] w fun e w' => RNF w w' e (sgn b1 x1 + sgn b2 x2) := by
  by_cases hb : b1 = b2
  · subst hb; exact w_radd_sameF b1 v1 v2 x1 x2 K w h1 h2 k1 k2 hK
  · by_cases hlt : x1 < x2
    · exact w_radd_lessF b1 b2 v1 v2 x1 x2 K w h1 h2 k1 k2 hK hb hlt
    · exact w_radd_moreF b1 b2 v1 v2 x1 x2 K w h1 h2 k1 k2 hK hb hlt

end Go.Proofs.YtfcbeohkhljboaaDoor
