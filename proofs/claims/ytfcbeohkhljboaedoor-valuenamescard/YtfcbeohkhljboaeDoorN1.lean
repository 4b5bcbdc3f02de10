import Derived.Test.YtfcbeohkhljboaeDoorChecked
import Derived.Test.YtfcbeohkhljboaeDoorProg
import Derived.WalkKit
import Derived.ProofKit
import Derived.Below
import Derived.Deep.RegionWith
import Derived.Deep.RegionHeld3
import Derived.Deep.QuietTactic
import Derived.WalkLawsBesides
namespace Go.Proofs.YtfcbeohkhljboaeDoor
open Go.RowKit
set_option linter.unusedVariables false
set_option linter.unusedSimpArgs false

/-- the kinds' names -/
def nmOf (k : Int) : List UInt8 := if k = 0 then [110, 117, 108, 108] else if k = 1 ∨ k = 2 then [98, 111, 111, 108, 101, 97, 110] else if k = 3 then [110, 117, 109, 98, 101, 114] else if k = 4 then [115, 116, 114, 105, 110, 103] else if k = 5 then [97, 114, 114, 97, 121] else if k = 6 then [111, 98, 106, 101, 99, 116] else []

def NamesIn (w : World) : Prop := ∀ i : Nat, i < 7 → w.cell? ⟨0, i, none⟩ = some (.string ⟨(nmOf (i : Int)).toArray⟩)

theorem nmOf_out {k : Int} (h : k < 0 ∨ 7 ≤ k) : nmOf k = [] := by
  unfold nmOf
  rw [if_neg (by omega), if_neg (by omega), if_neg (by omega), if_neg (by omega), if_neg (by omega), if_neg (by omega)]

set_option maxRecDepth 100000 in
set_option maxHeartbeats 800000 in
theorem w_rName (k : Int) (w : World) :
    Calls Tryd.prog 12 #[.int .i64 k] w fun e w' => e = .returned (.string ⟨(nmOf k).toArray⟩) ∧ w' = w := by
  have hc : k = 0 ∨ k = 1 ∨ k = 2 ∨ k = 3 ∨ k = 4 ∨ k = 5 ∨ k = 6 ∨ (k ≠ 0 ∧ k ≠ 1 ∧ k ≠ 2 ∧ k ≠ 3 ∧ k ≠ 4 ∧ k ≠ 5 ∧ k ≠ 6) := by omega
  rcases hc with rfl | rfl | rfl | rfl | rfl | rfl | rfl | ⟨h0, h1, h2, h3, h4, h5, h6⟩
  iterate 7
    go_enter Tryd.func12, Tryd.ntmps12
    go_wp2_with fail
    go_ret
    exact ⟨rfl, rfl⟩
  have e0 : (k == 0) = false := by simp [h0]
  have e1 : (k == 1) = false := by simp [h1]
  have e2 : (k == 2) = false := by simp [h2]
  have e3 : (k == 3) = false := by simp [h3]
  have e4 : (k == 4) = false := by simp [h4]
  have e5 : (k == 5) = false := by simp [h5]
  have e6 : (k == 6) = false := by simp [h6]
  rw [nmOf_out (by omega)]
  clear h0 h1 h2 h3 h4 h5 h6
  go_enter Tryd.func12, Tryd.ntmps12
  go_wp2_with fail
  go_ret
  exact ⟨rfl, rfl⟩

set_option maxRecDepth 100000 in
set_option maxHeartbeats 800000 in
theorem w_vName (k : Int) (w : World) (hn : NamesIn w) :
    Calls Tryd.prog 11 #[.int .i64 k] w fun e w' => e = .returned (.string ⟨(nmOf k).toArray⟩) ∧ w' = w := by
  by_cases h0 : k < 0
  · go_enter Tryd.func11, Tryd.ntmps11
    go_wp2_with fail
    go_ret
    exact ⟨by rw [nmOf_out (by omega)]; rfl, rfl⟩
  · by_cases h7 : 7 ≤ k
    · go_enter Tryd.func11, Tryd.ntmps11
      go_wp2_with fail
      go_ret
      exact ⟨by rw [nmOf_out (by omega)]; rfl, rfl⟩
    · obtain ⟨i, rfl⟩ : ∃ i : Nat, k = (i : Int) := ⟨k.toNat, by omega⟩
      have hi : i < 7 := by omega
      have hc := hn i hi
      clear hn
      go_enter Tryd.func11, Tryd.ntmps11
      go_wp2_with fail
      go_ret
      exact ⟨rfl, rfl⟩

set_option maxRecDepth 100000 in
set_option maxHeartbeats 800000 in
theorem w_vTrue (k : Int) (a b c d : Value) (w : World) :
    Calls Tryd.prog 13 #[.agg #[.int .i64 k, a, b, c, d]] w fun e w' => e = .returned (.bool (k != 0 && k != 1)) ∧ Below w.heap.size w w' := by
  by_cases h0 : k = 0
  · subst h0
    go_enter Tryd.func13, Tryd.ntmps13
    go_wp2_with fail
    go_ret
    exact ⟨rfl, (Below.refl _ _).alloc (Nat.le_refl _) _⟩
  · go_enter Tryd.func13, Tryd.ntmps13
    go_wp2_with fail
    go_ret
    exact ⟨rfl, (Below.refl _ _).alloc (Nat.le_refl _) _⟩

/-- the law's box -/
structure VBox (w u : World) (k : Int) (a b c d : Value) : Prop where
  below : Below w.heap.size w u
  c0 : u.cell? ⟨w.heap.size, 0, none⟩ = some (.int .i64 k)
  c1 : u.cell? ⟨w.heap.size, 1, none⟩ = some a
  c2 : u.cell? ⟨w.heap.size, 2, none⟩ = some b
  c3 : u.cell? ⟨w.heap.size, 3, none⟩ = some c
  c4 : u.cell? ⟨w.heap.size, 4, none⟩ = some d
  lt : w.heap.size < u.heap.size
theorem VBox.keep {w u u' : World} {k : Int} {a b c d : Value} (h : VBox w u k a b c d) (hb : Below u.heap.size u u') : VBox w u' k a b c d :=
  ⟨h.below.trans (hb.mono h.below.size), (hb.cell (p := ⟨_, _, _⟩) h.lt).trans h.c0, (hb.cell (p := ⟨_, _, _⟩) h.lt).trans h.c1, (hb.cell (p := ⟨_, _, _⟩) h.lt).trans h.c2, (hb.cell (p := ⟨_, _, _⟩) h.lt).trans h.c3, (hb.cell (p := ⟨_, _, _⟩) h.lt).trans h.c4, Nat.lt_of_lt_of_le h.lt hb.size⟩

theorem VBox.drew {w u : World} {k : Int} {a b c d : Value} (h : VBox w u k a b c d) : VBox w u.drew k a b c d := ⟨h.below.drew, h.c0, h.c1, h.c2, h.c3, h.c4, h.lt⟩
theorem vbox_new (w : World) (k : Int) (a b c d : Value) : VBox w (w.alloc (.cells #[.int .i64 k, a, b, c, d] 34)) k a b c d :=
  ⟨(Below.refl _ _).alloc (Nat.le_refl _) _, by simp [go_sem], by simp [go_sem], by simp [go_sem], by simp [go_sem], by simp [go_sem], by simp⟩

theorem nm4 : nmOf 4 = [115, 116, 114, 105, 110, 103] := by decide

set_option maxRecDepth 100000 in
set_option maxHeartbeats 6400000 in
theorem w_ValueNames (kd k : Int) (a b c d : Value) (w : World) (hn : NamesIn w) (hg : 0 < w.heap.size) :
    Calls Tryd.prog 4 #[.int .i64 kd, .agg #[.int .i64 k, a, b, c, d]] w fun e w' => e = .returned (.bool true) ∧ Below w.heap.size w w' := by
  have HN : Hid (∀ u, Below w.heap.size w u → NamesIn u) := fun u hu i hi => (hu.cell (p := ⟨0, i, none⟩) hg).trans (hn i hi)
  clear hn hg
  have HX := (vbox_new w k a b c d).drew
  cases hk : (k != 0)
  all_goals
    go_enter Tryd.func4, Tryd.ntmps4
    go_wp2_with fail
    first
      | go_region_with (first | (go_at_call 11; refine (w_vName _ _ (HN.out _ HX.below)).mono ?_; rintro e w' ⟨rfl, hw⟩; obtain rfl := hw.symm; try rw [nm4]) | (go_at_call 12; refine (w_rName _ _).mono ?_; rintro e w' ⟨rfl, hw⟩; obtain rfl := hw.symm) | (go_at_call 13; refine (w_vTrue _ _ _ _ _ _).mono ?_; rintro e w1 ⟨rfl, hb1⟩; have HJ := HX.keep hb1; have g0 := HJ.c0; rw [hk]))
      | fail
    all_goals go_wp2_with fail
    all_goals go_ret
    all_goals refine ⟨?_, HJ.below⟩
    all_goals first | rfl | simp [Act.put]
end Go.Proofs.YtfcbeohkhljboaeDoor
