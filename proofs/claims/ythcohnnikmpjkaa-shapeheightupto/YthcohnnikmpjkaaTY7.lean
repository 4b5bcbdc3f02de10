import Derived.Test.YthcohnnikmpjkaaTY6
import Derived.Test.YthcohnnikmpjkaaE6
namespace Go.Proofs.Ythcohnnikmpjkaa
open Go.RowKit Go.Shelf Go.Sort
set_option linter.unusedVariables false
set_option linter.unusedSimpArgs false
attribute [local go_sem] Oper.semAt_some

/-- nothing but perhaps All is set -/
def bareT (b c d f : Bool) (en gn inn jn : Nat) : Bool := !(b || c || d || f) && (en == 0 && (gn == 0 && (inn == 0 && jn == 0)))
def TT.bare (T : TT) : Bool := bareT T.nul T.fls T.tru T.any T.nums.length T.texts.length T.arrs.length T.objs.length

set_option maxRecDepth 100000 in
set_option maxHeartbeats 3200000 in
theorem bare_v (a b c d f : Bool) (eo go io jo : Option Addr) (en ec gn gc inn ic jn jc : Nat) (w : World) (h1 : en ≤ 140737488355328) (h2 : gn ≤ 140737488355328) (h3 : inn ≤ 140737488355328) (h4 : jn ≤ 140737488355328) :
    Calls Try.prog 19 #[.agg #[.bool a, .bool b, .bool c, .bool d, .slice eo en ec, .bool f, .slice go gn gc, .slice io inn ic, .slice jo jn jc]] w fun e w' => e = .returned (.bool (bareT b c d f en gn inn jn)) ∧ Below w.heap.size w w' := by
  have HX := Hid.mk (tbx_new w (.bool a) (.bool b) (.bool c) (.bool d) (.slice eo en ec) (.bool f) (.slice go gn gc) (.slice io inn ic) (.slice jo jn jc))
  obtain ⟨W0, hW0⟩ : ∃ W0, w.alloc (.cells #[.bool a, .bool b, .bool c, .bool d, .slice eo en ec, .bool f, .slice go gn gc, .slice io inn ic, .slice jo jn jc] 27) = W0 := ⟨_, rfl⟩
  rw [hW0] at HX
  obtain ⟨_, c0, c1, c2, c3, c4, c5, c6, c7, c8, _⟩ := HX.out
  obtain ⟨r, hr⟩ : ∃ r, bareT b c d f en gn inn jn = r := ⟨_, rfl⟩
  have HR := Hid.mk hr
  rw [hr]
  cases b
  · cases c
    · cases d
      · cases f
        · by_cases k1 : en = 0
          · by_cases k2 : gn = 0
            · by_cases k3 : inn = 0
              · by_cases k4 : jn = 0
                · subst k1 k2 k3 k4
                  go_enter Try.func19, Try.ntmps19
                  go_wp2_with fail
                  go_ret
                  exact ⟨by rw [← HR.out]; rfl, HX.out.below⟩
                · subst k1 k2 k3
                  have hr2 : r = false := by rw [← HR.out]; simp [bareT, k4]
                  have k4' : ¬ (jn : Int) = 0 := by omega
                  clear k4
                  go_enter Try.func19, Try.ntmps19
                  go_wp2_with fail
                  go_ret
                  exact ⟨by rw [hr2]; first | rfl | (simp; omega) | simp_all, HX.out.below⟩
              · subst k1 k2
                have hr2 : r = false := by rw [← HR.out]; simp [bareT, k3]
                have k3' : ¬ (inn : Int) = 0 := by omega
                clear k3
                go_enter Try.func19, Try.ntmps19
                go_wp2_with fail
                go_ret
                exact ⟨by rw [hr2]; first | rfl | (simp; omega) | simp_all, HX.out.below⟩
            · subst k1
              have hr2 : r = false := by rw [← HR.out]; simp [bareT, k2]
              have k2' : ¬ (gn : Int) = 0 := by omega
              clear k2
              go_enter Try.func19, Try.ntmps19
              go_wp2_with fail
              go_ret
              exact ⟨by rw [hr2]; first | rfl | (simp; omega) | simp_all, HX.out.below⟩
          · have hr2 : r = false := by rw [← HR.out]; simp [bareT, k1]
            have k1' : ¬ (en : Int) = 0 := by omega
            clear k1
            go_enter Try.func19, Try.ntmps19
            go_wp2_with fail
            go_ret
            exact ⟨by rw [hr2]; first | rfl | (simp; omega) | simp_all, HX.out.below⟩
        · go_enter Try.func19, Try.ntmps19
          go_wp2_with fail
          go_ret
          exact ⟨by rw [← HR.out]; rfl, HX.out.below⟩
      · go_enter Try.func19, Try.ntmps19
        go_wp2_with fail
        go_ret
        exact ⟨by rw [← HR.out]; rfl, HX.out.below⟩
    · go_enter Try.func19, Try.ntmps19
      go_wp2_with fail
      go_ret
      exact ⟨by rw [← HR.out]; rfl, HX.out.below⟩
  · go_enter Try.func19, Try.ntmps19
    go_wp2_with fail
    go_ret
    exact ⟨by rw [← HR.out]; rfl, HX.out.below⟩
theorem w_rBare (h : Nat) (T : TT) (v : Value) (w : World) (hI : InT w h T v) : Calls Try.prog 19 #[v] w fun e w' => e = .returned (.bool T.bare) ∧ Below w.heap.size w w' := by
  cases h with
  | zero => exact hI.elim
  | succ h =>
    obtain ⟨no, nc, xo, xc, ao, ac, oo, oc, rfl, _, ⟨a5, a6, a7, a8⟩, _⟩ := hI
    exact bare_v _ _ _ _ _ _ _ _ _ _ _ _ _ _ _ _ _ w a5 a6 a7 a8

/-- nothing is set -/
def TT.never (T : TT) : Bool := !T.all && T.bare
set_option maxRecDepth 100000 in
set_option maxHeartbeats 1600000 in
theorem never_v (a b c d f : Bool) (eo go io jo : Option Addr) (en ec gn gc inn ic jn jc : Nat) (w : World) (h1 : en ≤ 140737488355328) (h2 : gn ≤ 140737488355328) (h3 : inn ≤ 140737488355328) (h4 : jn ≤ 140737488355328) :
    Calls Try.prog 42 #[.agg #[.bool a, .bool b, .bool c, .bool d, .slice eo en ec, .bool f, .slice go gn gc, .slice io inn ic, .slice jo jn jc]] w fun e w' => e = .returned (.bool (!a && bareT b c d f en gn inn jn)) ∧ Below w.heap.size w w' := by
  have HC := Hid.mk (fun u => bare_v a b c d f eo go io jo en ec gn gc inn ic jn jc u h1 h2 h3 h4)
  obtain ⟨r, hr⟩ : ∃ r, bareT b c d f en gn inn jn = r := ⟨_, rfl⟩
  rw [hr] at HC ⊢
  have HX := Hid.mk (tbx_new w (.bool a) (.bool b) (.bool c) (.bool d) (.slice eo en ec) (.bool f) (.slice go gn gc) (.slice io inn ic) (.slice jo jn jc))
  obtain ⟨W0, hW0⟩ : ∃ W0, w.alloc (.cells #[.bool a, .bool b, .bool c, .bool d, .slice eo en ec, .bool f, .slice go gn gc, .slice io inn ic, .slice jo jn jc] 27) = W0 := ⟨_, rfl⟩
  rw [hW0] at HX
  obtain ⟨_, c0, c1, c2, c3, c4, c5, c6, c7, c8, _⟩ := HX.out
  clear hr
  cases a
  · go_enter Try.func42, Try.ntmps42
    go_wp2_with fail
    refine (HC.out _).mono ?_
    rintro e w1 ⟨rfl, hb1⟩
    have HX1 := Hid.mk (HX.out.keep hb1)
    clear hb1 c0 c1 c2 c3 c4 c5 c6 c7 c8 hW0
    go_wp2_with fail
    go_ret
    exact ⟨by first | rfl | simp, HX1.out.below⟩
  · go_enter Try.func42, Try.ntmps42
    go_wp2_with fail
    go_ret
    exact ⟨by first | rfl | simp, HX.out.below⟩
theorem w_rNever (h : Nat) (T : TT) (v : Value) (w : World) (hI : InT w h T v) : Calls Try.prog 42 #[v] w fun e w' => e = .returned (.bool T.never) ∧ Below w.heap.size w w' := by
  cases h with
  | zero => exact hI.elim
  | succ h =>
    obtain ⟨no, nc, xo, xc, ao, ac, oo, oc, rfl, _, ⟨a5, a6, a7, a8⟩, _⟩ := hI
    exact never_v _ _ _ _ _ _ _ _ _ _ _ _ _ _ _ _ _ w a5 a6 a7 a8

/-- empty, or a number -/
def bndB (s : ByteArray) : Bool := s.size == 0 || Pl.formed s.data.toList
set_option maxRecDepth 100000 in
set_option maxHeartbeats 1600000 in
theorem w_rbound (s : ByteArray) (w : World) (hs : s.size ≤ 140737488355328) : Calls Try.prog 40 #[.string s] w fun e w' => e = .returned (.bool (bndB s)) ∧ w' = w := by
  have HC := Hid.mk (fun u => w_Number s u (by omega))
  by_cases h0 : s = ⟨#[]⟩
  · have hb : bndB s = true := by rw [h0]; rfl
    rw [hb]
    subst h0
    go_enter Try.func40, Try.ntmps40
    go_wp2_with fail
    go_ret
    exact ⟨by first | rfl | simp, rfl⟩
  · have hz : ¬ s.size = 0 := fun h => h0 (by
      cases s with
      | mk d => congr 1; exact Array.eq_empty_of_size_eq_zero h)
    have hb : bndB s = Pl.formed s.data.toList := by simp [bndB, hz]
    rw [hb]
    obtain ⟨r, hr⟩ : ∃ r, Pl.formed s.data.toList = r := ⟨_, rfl⟩
    rw [hr] at HC ⊢
    have hbe : ¬ s.toList = [] := fun h => hz (by
      rw [Lib.toList_data] at h
      have h2 := congrArg List.length h
      rw [Array.length_toList] at h2
      exact h2)
    clear hr hb
    go_enter Try.func40, Try.ntmps40
    go_wp2_with fail
    refine (HC.out _).mono ?_
    rintro e w1 ⟨rfl, rfl⟩
    go_wp2_with fail
    go_ret
    exact ⟨by first | rfl | (simp; done) | simp [hbe], rfl⟩
end Go.Proofs.Ythcohnnikmpjkaa
