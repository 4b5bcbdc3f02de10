import Derived.Test.YtahknjhphbpmiaaZTYh
import Derived.Test.YtahknjhphbpmiaaZQP
import Derived.Test.YtahknjhphbpmiaaZCMp
namespace Go.Proofs.Ytahknjhphbpmiaa
open Go.RowKit Go.Shelf Go.Sort
set_option linter.unusedVariables false
set_option linter.unusedSimpArgs false
attribute [local go_sem] Oper.semAt_some

set_option maxRecDepth 100000 in
set_option maxHeartbeats 1600000 in
theorem w_byBound (a b : ByteArray) (en : Int) (w : World) (he : en = -1 ∨ en = 1) (ha : a.size ≤ 140737488355328) (hb : b.size ≤ 140737488355328) : Calls Try.prog 80 #[.string a, .string b, .int .i64 en] w fun e w' => e = .returned (.int .i64 (bdC a b en)) ∧ Below w.heap.size w w' := by
  have HC := Hid.mk (fun u => w_Cmp a b u (by unfold maxLen; omega) (by unfold maxLen; omega))
  cases h1 : (a.toList == b.toList) with
  | true =>
    have HX : Hid (bdC a b en = 0) := by show _ = _; unfold bdC eqS; rw [h1]; rfl
    go_enter Try.func80, Try.ntmps80
    go_wp2_with fail
    go_ret
    exact ⟨by rw [HX.out]; rfl, Below.refl _ _⟩
  | false =>
    by_cases h2 : a.toList = []
    · have h2' : a.toList.isEmpty = true := by rw [h2]; rfl
      have HX : Hid (bdC a b en = en) := by show _ = _; unfold bdC eqS; rw [h1, h2']; rfl
      have h4 : b.toList.isEmpty = false := by
        cases h : b.toList with
        | nil => rw [h2, h] at h1; cases h1
        | cons => rfl
      have h5 : ¬ b.toList = [] := fun h => by rw [h] at h4; cases h4
      go_enter Try.func80, Try.ntmps80
      go_wp2_with fail
      go_ret
      exact ⟨by rw [HX.out]; rfl, Below.refl _ _⟩
    · have h2' : a.toList.isEmpty = false := by cases h : a.toList with | nil => exact absurd h h2 | cons => rfl
      by_cases h3 : b.toList = []
      · have h3' : b.toList.isEmpty = true := by rw [h3]; rfl
        have HX : Hid (bdC a b en = -en) := by show _ = _; unfold bdC eqS; rw [h1, h2', h3']; rfl
        rcases he with rfl | rfl
        all_goals
          go_enter Try.func80, Try.ntmps80
          go_wp2_with fail
          go_ret
          exact ⟨by rw [HX.out]; rfl, Below.refl _ _⟩
      · have h3' : b.toList.isEmpty = false := by cases h : b.toList with | nil => exact absurd h h3 | cons => rfl
        have HX : Hid (bdC a b en = Pl.cmpN a.data.toList b.data.toList) := by show _ = _; unfold bdC eqS; rw [h1, h2', h3']; rfl
        generalize Pl.cmpN a.data.toList b.data.toList = c at HC HX
        generalize Pl.errN a.data.toList b.data.toList = c2 at HC
        go_enter Try.func80, Try.ntmps80
        go_wp2_with fail
        refine (HC.out _).mono ?_
        rintro e w1 ⟨rfl, hb1⟩
        have HB := Hid.mk hb1
        clear hb1
        go_wp2_with fail
        go_ret
        exact ⟨by rw [HX.out]; rfl, HB.out⟩
end Go.Proofs.Ytahknjhphbpmiaa
