import Derived.Test.YtahknjhphbpmiaaZCM1
import Derived.Test.YtahknjhphbpmiaaM23
namespace Go.Proofs.Ytahknjhphbpmiaa
open Go.RowKit Go.Shelf Go.Sort
set_option linter.unusedVariables false
set_option linter.unusedSimpArgs false
attribute [local go_sem] Oper.semAt_some

theorem w_bySet (a b : Bool) (w : World) : Calls Try.prog 64 #[.bool a, .bool b] w fun e w' => e = .returned (.int .i64 (setC a b)) ∧ w' = w := by
  cases a <;> cases b
  all_goals
    go_enter Try.func64, Try.ntmps64
    go_wp2_with fail
    go_ret
    exact ⟨by rfl, rfl⟩

theorem w_isNaNu (a : Int) (w : World) : Calls Try.prog 94 #[.int .u64 a] w fun e w' => e = .returned (.bool false) ∧ w' = w := by
  go_enter Try.func94, Try.ntmps94
  go_wp2_with fail
  go_ret
  exact ⟨by first | rfl | simp, rfl⟩
theorem w_CompareUint (a b : Int) (w : World) : Calls Try.prog 91 #[.int .u64 a, .int .u64 b] w fun e w' => e = .returned (.int .i64 (Pl.cmpI a b)) ∧ w' = w := by
  by_cases h1 : a < b
  · have HX : Hid (Pl.cmpI a b = -1) := by show _ = _; unfold Pl.cmpI; rw [if_pos h1]
    go_enter Try.func91, Try.ntmps91
    go_wp2_with fail
    refine (w_isNaNu _ _).mono ?_
    rintro e w1 ⟨rfl, rfl⟩
    go_wp2_with fail
    refine (w_isNaNu _ _).mono ?_
    rintro e w1 ⟨rfl, rfl⟩
    go_wp2_with fail
    go_ret
    exact ⟨by rw [HX.out]; rfl, rfl⟩
  · by_cases h2 : b < a
    · have HX : Hid (Pl.cmpI a b = 1) := by show _ = _; unfold Pl.cmpI; rw [if_neg h1, if_pos h2]
      go_enter Try.func91, Try.ntmps91
      go_wp2_with fail
      refine (w_isNaNu _ _).mono ?_
      rintro e w1 ⟨rfl, rfl⟩
      go_wp2_with fail
      refine (w_isNaNu _ _).mono ?_
      rintro e w1 ⟨rfl, rfl⟩
      go_wp2_with fail
      go_ret
      exact ⟨by rw [HX.out]; rfl, rfl⟩
    · have HX : Hid (Pl.cmpI a b = 0) := by show _ = _; unfold Pl.cmpI; rw [if_neg h1, if_neg h2]
      go_enter Try.func91, Try.ntmps91
      go_wp2_with fail
      refine (w_isNaNu _ _).mono ?_
      rintro e w1 ⟨rfl, rfl⟩
      go_wp2_with fail
      refine (w_isNaNu _ _).mono ?_
      rintro e w1 ⟨rfl, rfl⟩
      go_wp2_with fail
      go_ret
      exact ⟨by rw [HX.out]; rfl, rfl⟩
theorem w_byMax (a b : Int) (w : World) : Calls Try.prog 83 #[.int .i64 a, .int .i64 b] w fun e w' => e = .returned (.int .i64 (maxC a b)) ∧ w' = w := by
  have HX : Hid (maxC a b = Pl.cmpI (uiN a) (uiN b)) := rfl
  have HC := Hid.mk (fun u => w_CompareUint (uiN a) (uiN b) u)
  generalize Pl.cmpI (uiN a) (uiN b) = c at HX HC
  have e1 : ∀ x : Int, IntKind.wrap .u64 x = uiN x := fun x => rfl
  go_enter Try.func83, Try.ntmps83
  go_wp2_with fail
  refine (HC.out _).mono ?_
  rintro e w1 ⟨rfl, rfl⟩
  go_wp2_with fail
  go_ret
  exact ⟨by rw [HX.out]; rfl, rfl⟩

theorem w_Or4 (b : Nat) (x y z t : Int) (w : World) (hx : w.cell? ⟨b, 0, none⟩ = some (.int .i64 x)) (hy : w.cell? ⟨b, 1, none⟩ = some (.int .i64 y)) (hz : w.cell? ⟨b, 2, none⟩ = some (.int .i64 z)) (ht : w.cell? ⟨b, 3, none⟩ = some (.int .i64 t)) :
    Calls Try.prog 63 #[.slice (some ⟨b, 0, none⟩) 4 4] w fun e w' => e = .returned (.int .i64 (Pl.orI x (Pl.orI y (Pl.orI z t)))) ∧ w' = w := by
  by_cases h : x = 0
  · subst h
    by_cases h2 : y = 0
    · subst h2
      by_cases h3 : z = 0
      · subst h3
        by_cases h4 : t = 0
        · subst h4
          go_enter Try.func63, Try.ntmps63
          go_wp2
          refine wp_loop_rounds 5 ?_
          rw [rounds_succ]
          go_wp2
          rw [rounds_succ]
          go_wp2
          rw [rounds_succ]
          go_wp2
          rw [rounds_succ]
          go_wp2
          rw [rounds_succ]
          go_wp2
          go_ret
          exact ⟨rfl, rfl⟩
        · have HX : Hid (Pl.orI 0 (Pl.orI 0 (Pl.orI 0 t)) = t) := rfl
          have h3 : (t == 0) = false := by simp [h4]
          have h5 : (t != 0) = true := by simp [h4]
          go_enter Try.func63, Try.ntmps63
          go_wp2
          refine wp_loop_rounds 4 ?_
          rw [rounds_succ]
          go_wp2
          rw [rounds_succ]
          go_wp2
          rw [rounds_succ]
          go_wp2
          rw [rounds_succ]
          go_wp2
          go_ret
          exact ⟨by rw [HX.out]; rfl, rfl⟩
      · have HX : Hid (Pl.orI 0 (Pl.orI 0 (Pl.orI z t)) = z) := by show Pl.orI z t = z; simp [Pl.orI, h3]
        have h4 : (z == 0) = false := by simp [h3]
        have h5 : (z != 0) = true := by simp [h3]
        go_enter Try.func63, Try.ntmps63
        go_wp2
        refine wp_loop_rounds 3 ?_
        rw [rounds_succ]
        go_wp2
        rw [rounds_succ]
        go_wp2
        rw [rounds_succ]
        go_wp2
        go_ret
        exact ⟨by rw [HX.out]; rfl, rfl⟩
    · have HX : Hid (Pl.orI 0 (Pl.orI y (Pl.orI z t)) = y) := by show Pl.orI y _ = y; simp [Pl.orI, h2]
      have h4 : (y == 0) = false := by simp [h2]
      have h5 : (y != 0) = true := by simp [h2]
      go_enter Try.func63, Try.ntmps63
      go_wp2
      refine wp_loop_rounds 2 ?_
      rw [rounds_succ]
      go_wp2
      rw [rounds_succ]
      go_wp2
      go_ret
      exact ⟨by rw [HX.out]; rfl, rfl⟩
  · have HX : Hid (Pl.orI x (Pl.orI y (Pl.orI z t)) = x) := by show _ = _; simp [Pl.orI, h]
    have h3 : (x == 0) = false := by simp [h]
    have h4 : (x != 0) = true := by simp [h]
    go_enter Try.func63, Try.ntmps63
    go_wp2
    refine wp_loop_rounds 1 ?_
    rw [rounds_succ]
    go_wp2
    go_ret
    exact ⟨by rw [HX.out]; rfl, rfl⟩
end Go.Proofs.Ytahknjhphbpmiaa
