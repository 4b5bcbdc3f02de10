import Derived.Test.YtgnaeddpdomgkabDoorTen22
namespace Go.Proofs.YtgnaeddpdomgkabDoor
open Go.RowKit
set_option linter.unusedVariables false
set_option linter.unusedSimpArgs false

set_option maxRecDepth 100000 in
set_option maxHeartbeats 800000 in
theorem w_negated (b1 : Bool) (v1 : Value) (x1 : Nat) (w : World) (h1 : NumV w v1 x1) :
    Calls Tryd.prog 49 #[.agg #[.bool b1, v1]] w fun e w' => e = .returned (.agg #[.bool (!b1), v1]) ∧ Below w.heap.size w w' := by
  obtain ⟨xs, g1, e1⟩ := h1
  obtain ⟨ao, ca, rfl, q1, q2⟩ := g1.1
  clear q1 q2 g1 e1
  go_enter Tryd.func49, Tryd.ntmps49
  go_wp2
  refine bodyPost_ret (v := .agg #[.bool (!b1), .slice ao xs.length ca]) (by simp [results, Tryd.results49, go_sem]) rfl ?_
  exact ⟨rfl, below2 w _ _⟩

set_option maxRecDepth 100000 in
set_option maxHeartbeats 800000 in
theorem w_unsigned (b1 : Bool) (v1 : Value) (x1 : Nat) (w : World) (h1 : NumV w v1 x1) :
    Calls Tryd.prog 33 #[.agg #[.bool b1, v1]] w fun e w' => e = .returned (.agg #[.bool false, v1]) ∧ Below w.heap.size w w' := by
  obtain ⟨xs, g1, e1⟩ := h1
  obtain ⟨ao, ca, rfl, q1, q2⟩ := g1.1
  clear q1 q2 g1 e1
  go_enter Tryd.func33, Tryd.ntmps33
  go_wp2
  refine bodyPost_ret (v := .agg #[.bool false, .slice ao xs.length ca]) (by simp [results, Tryd.results33, go_sem]) rfl ?_
  exact ⟨rfl, below2 w _ _⟩

theorem NumR.open' {u w' : World} {e : Ending} {z : Int} (h : NumR u w' e z) : ∃ bl ro rn rc x, e = .returned (.agg #[.bool bl, .slice ro rn rc]) ∧ Hid (NumV w' (.slice ro rn rc) x ∧ sgn bl x = z) ∧ Below u.heap.size u w' := by
  obtain ⟨bl, v, x, h1, h2, h3, h4⟩ := h
  have h2' := h2
  obtain ⟨zs, hz, _⟩ := h2'
  obtain ⟨ro, rc, rfl, _⟩ := hz.1
  exact ⟨bl, ro, _, rc, x, h1, ⟨h2, h3⟩, h4⟩

set_option maxRecDepth 100000 in
set_option maxHeartbeats 800000 in
theorem w_less (b1 b2 : Bool) (v1 v2 : Value) (x1 x2 K : Nat) (w : World) (h1 : NumV w v1 x1) (h2 : NumV w v2 x2) (k1 : x1 < 1000000000 ^ K) (k2 : x2 < 1000000000 ^ K) (hK : K ≤ 274877906944) :
    Calls Tryd.prog 34 #[.agg #[.bool b1, v1], .agg #[.bool b2, v2]] w fun e w' => NumR w w' e (sgn b1 x1 - sgn b2 x2) := by
  have HP : Hid (∀ u, Below w.heap.size w u → Calls Tryd.prog 29 #[.agg #[.bool b1, v1], .agg #[.bool (!b2), v2]] u fun e w' => ∃ bl ro rn rc x, e = .returned (.agg #[.bool bl, .slice ro rn rc]) ∧ Hid (NumV w' (.slice ro rn rc) x ∧ sgn bl x = sgn b1 x1 - sgn b2 x2) ∧ Below u.heap.size u w') := by
    intro u hu
    refine (w_plus b1 (!b2) v1 v2 x1 x2 K u (h1.keep hu) (h2.keep hu) k1 k2 hK).mono ?_
    intro e w' h
    have e2 : sgn b1 x1 + sgn (!b2) x2 = sgn b1 x1 - sgn b2 x2 := by cases b2 <;> simp [sgn] <;> omega
    rw [e2] at h
    exact h.open'
  have HM : Hid (∀ u, Below w.heap.size w u → Calls Tryd.prog 49 #[.agg #[.bool b2, v2]] u fun e w' => e = .returned (.agg #[.bool (!b2), v2]) ∧ Below u.heap.size u w') := fun u hu => w_negated b2 v2 x2 u (h2.keep hu)
  obtain ⟨xs, g1, e1⟩ := h1
  obtain ⟨ao, ca, rfl, q1, q2⟩ := g1.1
  clear q1 q2
  obtain ⟨ys, g2, e2⟩ := h2
  obtain ⟨bo, cb, rfl, q1, q2⟩ := g2.1
  clear q1 q2 g1 g2 e1 e2 k1 k2
  have HI := (in3_box w b1 (.slice ao xs.length ca) b2 (.slice bo ys.length cb)).drew
  go_enter Tryd.func34, Tryd.ntmps34
  go_wp2_with fail
  go_region_with (first | (go_at_call 49; refine (HM.out _ HI.below).mono ?_; rintro e w1 ⟨rfl, hb1⟩; have HJ := HI.keep hb1; have g00 := HJ.c00; have g01 := HJ.c01) | (go_at_call 29; refine (HP.out _ HJ.below).mono ?_; rintro e w2 ⟨bl, ro, rn, rc, x, rfl, HN, hb2⟩; have HK := HJ.keep hb2; have g20 := HK.c20; have g21 := HK.c21; have q20 := HK.f20; have q21 := HK.f21))
  all_goals obtain ⟨r0, r1, r2, r3⟩ := fill (bl := bl) HK.below (by omega) g20 g21 (by simp) HN.out.1
  all_goals go_wp2_with fail
  all_goals refine bodyPost_ret (v := .agg #[.bool bl, .slice ro rn rc]) (by simp [results, Tryd.results34, go_sem, r0, r1]) rfl ?_
  all_goals exact ⟨bl, _, _, rfl, r2, HN.out.2, r3⟩

end Go.Proofs.YtgnaeddpdomgkabDoor
