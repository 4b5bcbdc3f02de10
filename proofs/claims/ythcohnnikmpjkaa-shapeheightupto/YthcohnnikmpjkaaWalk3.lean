import Derived.Test.YthcohnnikmpjkaaWalk2
namespace Go.Proofs.Ythcohnnikmpjkaa
open Go.RowKit
set_option linter.unusedVariables false
set_option linter.unusedSimpArgs false

theorem w_CompareInt (a b : Int) (w : World) :
    Calls Try.prog 88 #[.int .i64 a, .int .i64 b] w fun e w' => e = .returned (.int .i64 (Pl.cmpI a b)) ∧ w' = w := by
  by_cases h1 : a < b
  · have HX : Hid (Pl.cmpI a b = -1) := by show _ = _; simp [Pl.cmpI, h1]
    go_enter Try.func88, Try.ntmps88
    go_wp2
    all_goals (go_ret; exact ⟨by rw [HX.out]; rfl, rfl⟩)
  · by_cases h2 : b < a
    · have HX : Hid (Pl.cmpI a b = 1) := by show _ = _; simp [Pl.cmpI, h1, h2]
      go_enter Try.func88, Try.ntmps88
      go_wp2
      all_goals (go_ret; exact ⟨by rw [HX.out]; rfl, rfl⟩)
    · have HX : Hid (Pl.cmpI a b = 0) := by show _ = _; simp [Pl.cmpI, h1, h2]
      go_enter Try.func88, Try.ntmps88
      go_wp2
      all_goals (go_ret; exact ⟨by rw [HX.out]; rfl, rfl⟩)

theorem w_CompareString (a b : ByteArray) (w : World) :
    Calls Try.prog 87 #[.string a, .string b] w fun e w' => e = .returned (.int .i64 (Pl.cmpS a.toList b.toList)) ∧ w' = w := by
  cases h1 : Op.bytesLess a.toList b.toList with
  | true =>
    have HX : Hid (Pl.cmpS a.toList b.toList = -1) := by show _ = _; simp [Pl.cmpS, h1]
    go_enter Try.func87, Try.ntmps87
    go_wp2
    all_goals (go_ret; exact ⟨by rw [HX.out]; rfl, rfl⟩)
  | false =>
    cases h2 : (a.toList == b.toList) with
    | false =>
      have HX : Hid (Pl.cmpS a.toList b.toList = 1) := by show _ = _; simp [Pl.cmpS, h1, h2]
      go_enter Try.func87, Try.ntmps87
      go_wp2
      all_goals (go_ret; exact ⟨by rw [HX.out]; rfl, rfl⟩)
    | true =>
      have HX : Hid (Pl.cmpS a.toList b.toList = 0) := by show _ = _; simp [Pl.cmpS, h1, h2]
      go_enter Try.func87, Try.ntmps87
      go_wp2
      all_goals (go_ret; exact ⟨by rw [HX.out]; rfl, rfl⟩)

theorem w_Or2 (b : Nat) (x y : Int) (w : World) (hx : w.cell? ⟨b, 0, none⟩ = some (.int .i64 x)) (hy : w.cell? ⟨b, 1, none⟩ = some (.int .i64 y)) :
    Calls Try.prog 69 #[.slice (some ⟨b, 0, none⟩) 2 2] w fun e w' => e = .returned (.int .i64 (Pl.orI x y)) ∧ w' = w := by
  by_cases h : x = 0
  · subst h
    by_cases h2 : y = 0
    · subst h2
      have HX : Hid (Pl.orI 0 0 = 0) := rfl
      go_enter Try.func69, Try.ntmps69
      go_wp2
      refine wp_loop_rounds 3 ?_
      rw [rounds_succ]
      go_wp2
      rw [rounds_succ]
      go_wp2
      rw [rounds_succ]
      go_wp2
      go_ret
      exact ⟨by rw [HX.out]; rfl, rfl⟩
    · have HX : Hid (Pl.orI 0 y = y) := rfl
      have h3 : (y == 0) = false := by simp [h2]
      have h4 : (y != 0) = true := by simp [h2]
      go_enter Try.func69, Try.ntmps69
      go_wp2
      refine wp_loop_rounds 2 ?_
      rw [rounds_succ]
      go_wp2
      rw [rounds_succ]
      go_wp2
      go_ret
      exact ⟨by rw [HX.out]; rfl, rfl⟩
  · have HX : Hid (Pl.orI x y = x) := by show _ = _; simp [Pl.orI, h]
    have h3 : (x == 0) = false := by simp [h]
    have h4 : (x != 0) = true := by simp [h]
    go_enter Try.func69, Try.ntmps69
    go_wp2
    refine wp_loop_rounds 1 ?_
    rw [rounds_succ]
    go_wp2
    go_ret
    exact ⟨by rw [HX.out]; rfl, rfl⟩

theorem w_compareTexts (a b : ByteArray) (w : World) (ha : a.size ≤ maxLen) (hb : b.size ≤ maxLen) :
    Calls Try.prog 99 #[.string a, .string b] w fun e w' => e = .returned (.int .i64 (Pl.cmpT a.toList b.toList)) ∧ Below w.heap.size w w' := by
  unfold maxLen at ha hb
  go_enter Try.func99, Try.ntmps99
  go_wp2_with fail
  refine (w_CompareInt _ _ _).mono ?_
  rintro e w' ⟨rfl, rfl⟩
  go_wp2_with fail
  refine (w_CompareString _ _ _).mono ?_
  rintro e w' ⟨rfl, rfl⟩
  have HT : Hid (Pl.cmpT a.toList b.toList = Pl.orI (Pl.cmpI (a.size : Int) (b.size : Int)) (Pl.cmpS a.toList b.toList)) := Pl.cmpT_eq a b
  generalize Pl.cmpI (a.size : Int) (b.size : Int) = x at HT ⊢
  generalize Pl.cmpS a.toList b.toList = y at HT ⊢
  go_wp2_with fail
  refine (w_Or2 w'.heap.size x y _ (by simp) (by simp)).mono ?_
  rintro e w1 ⟨rfl, rfl⟩
  go_wp2
  go_ret
  exact ⟨by rw [HT.out]; rfl, (Below.refl _ _).alloc (Nat.le_refl _) _⟩
end Go.Proofs.Ythcohnnikmpjkaa
