import Derived.Test.YtfcbeohkhljboaaDoorZR4
import Derived.Test.YtfcbeohkhljboaaDoorZR5
namespace Go.Proofs.YtfcbeohkhljboaaDoor
open Go.RowKit
set_option linter.unusedVariables false
set_option linter.unusedSimpArgs false

theorem w_radd (b1 b2 : Bool) (v1 v2 : Value) (x1 x2 K : Nat) (w : World) (h1 : RV w v1 x1) (h2 : RV w v2 x2) (k1 : x1 < 10 ^ K) (k2 : x2 < 10 ^ K) (hK : K ≤ 549755813888) :
    Calls Tryd.prog 57 #[.agg #[.bool b1, v1], .agg #[.bool b2, v2]] w fun e w' => RN w w' e (sgn b1 x1 + sgn b2 x2) := by
  by_cases hb : b1 = b2
  · subst hb; exact w_radd_same b1 v1 v2 x1 x2 K w h1 h2 k1 k2 hK
  · by_cases hlt : x1 < x2
    · exact w_radd_less b1 b2 v1 v2 x1 x2 K w h1 h2 k1 k2 hK hb hlt
    · exact w_radd_more b1 b2 v1 v2 x1 x2 K w h1 h2 k1 k2 hK hb hlt

/-- a number's box, and the answer's room -/
structure In2 (w u : World) (b1 : Bool) (v1 : Value) : Prop where
  c00 : u.cell? ⟨w.heap.size, 0, none⟩ = some (.bool b1)
  c01 : u.cell? ⟨w.heap.size, 1, none⟩ = some v1
  c10 : u.cell? ⟨w.heap.size + 1, 0, none⟩ = some (.bool false)
  c11 : u.cell? ⟨w.heap.size + 1, 1, none⟩ = some (.slice none 0 0)
  f10 : u.frozen? ⟨w.heap.size + 1, 0, none⟩ = false
  f11 : u.frozen? ⟨w.heap.size + 1, 1, none⟩ = false
  size : w.heap.size + 2 ≤ u.heap.size
  below : Below w.heap.size w u
theorem in2_rbox (w : World) (b1 : Bool) (v1 : Value) : In2 w ((w.alloc (.cells #[.bool b1, v1] 48)).alloc (.cells #[.bool false, .slice none 0 0] 48)) b1 v1 where
  c00 := by simp [go_sem]
  c01 := by simp [go_sem]
  c10 := by simp [go_sem]
  c11 := by simp [go_sem]
  f10 := by simp [go_sem]
  f11 := by simp [go_sem]
  size := by simp
  below := below2 w _ _
theorem In2.keep {w u u' : World} {b1 : Bool} {v1 : Value} (h : In2 w u b1 v1) (hb : Below u.heap.size u u') : In2 w u' b1 v1 := by
  have hs := h.size
  exact ⟨below_cells hb (by omega) h.c00, below_cells hb (by omega) h.c01, below_cells hb (by omega) h.c10, below_cells hb (by omega) h.c11, below_frees hb (by omega) h.f10, below_frees hb (by omega) h.f11, Nat.le_trans hs hb.size, below_more h.below hb⟩

theorem sgn_not (b : Bool) (x : Nat) : sgn (!b) x = -(sgn b x) := by cases b <;> simp [sgn]

set_option maxRecDepth 100000 in
set_option maxHeartbeats 800000 in
theorem w_ropposite (b1 : Bool) (v1 : Value) (x K : Nat) (w : World) (h1 : RV w v1 x) (k1 : x < 10 ^ K) (hK : K ≤ 549755813888) :
    Calls Tryd.prog 44 #[.agg #[.bool b1, v1]] w fun e w' => RN w w' e (-(sgn b1 x)) := by
  have HU := Hid.mk (h1.ru k1 (by omega))
  obtain ⟨ao, na, ca, hv⟩ : ∃ ao na ca, v1 = .slice ao na ca := by obtain ⟨_, ⟨ao, ca, rfl, _⟩, _⟩ := h1; exact ⟨ao, _, ca, rfl⟩
  subst hv
  clear h1 k1
  have HI := Hid.mk (in2_rbox w b1 (.slice ao na ca))
  go_enter Tryd.func44, Tryd.ntmps44
  go_wp2_with fail
  refine (w_trimR (!b1) _ x _ (HU.out.keep HI.out.below)).mono ?_
  rintro e w2 ⟨ro, rn, rc, rfl, HV, hb2⟩
  have HK := HI.out.keep hb2
  have g20 := HK.c10
  have g21 := HK.c11
  have q20 := HK.f10
  have q21 := HK.f11
  have HK' := Hid.mk HK
  clear HK hb2
  generalize hfl : (!b1 && decide (0 < x)) = bl
  have HFL := Hid.mk hfl
  clear hfl
  obtain ⟨r0, r1, r2, r3⟩ := rfill (bl := bl) HK'.out.below (Nat.le_succ _) g20 g21 (by simp) HV.out
  go_wp2_with fail
  refine bodyPost_ret (v := .agg #[.bool bl, .slice ro rn rc]) (by simp [results, Tryd.results44, go_sem, r0, r1]) rfl ?_
  exact ⟨bl, _, _, _, _, rfl, r2, flag_sgn HFL.out (sgn_not _ _), flag_pos HFL.out, r3⟩
end Go.Proofs.YtfcbeohkhljboaaDoor
