import Derived.Test.YtahknjhphbpmiaaZE9z
import Derived.Test.YtahknjhphbpmiaaZTYh
namespace Go.Proofs.Ytahknjhphbpmiaa
open Go.RowKit Go.Shelf Go.Sort
set_option linter.unusedVariables false
set_option linter.unusedSimpArgs false
attribute [local go_sem] Oper.semAt_some

/-- no value's type, every value's, and that of the number 3 -/
def sfN : TT := .mk false false false false false [] [] [] []
def sfE : TT := .mk true false false false false [] [] [] []
def sf3 : TT := .mk false false false false false [(⟨#[51]⟩, ⟨#[51]⟩)] [] [] []
theorem inT_sfN (W : World) : InT W 1 sfN (.agg #[.bool false, .bool false, .bool false, .bool false, .slice none 0 0, .bool false, .slice none 0 0, .slice none 0 0, .slice none 0 0]) :=
  ⟨none, 0, none, 0, none, 0, none, 0, rfl, ⟨Nat.le_refl _, Nat.le_refl _, Nat.le_refl _, Nat.le_refl _⟩, ⟨Nat.zero_le _, Nat.zero_le _, Nat.zero_le _, Nat.zero_le _⟩, fun p hp => absurd hp (List.not_mem_nil), fun p hp => absurd hp (List.not_mem_nil), ⟨fun h => absurd h (Nat.lt_irrefl 0)⟩, ⟨fun h => absurd h (Nat.lt_irrefl 0)⟩, fun h => absurd h (Nat.lt_irrefl 0), fun h => absurd h (Nat.lt_irrefl 0)⟩
theorem inT_sfE (W : World) : InT W 1 sfE (.agg #[.bool true, .bool false, .bool false, .bool false, .slice none 0 0, .bool false, .slice none 0 0, .slice none 0 0, .slice none 0 0]) :=
  ⟨none, 0, none, 0, none, 0, none, 0, rfl, ⟨Nat.le_refl _, Nat.le_refl _, Nat.le_refl _, Nat.le_refl _⟩, ⟨Nat.zero_le _, Nat.zero_le _, Nat.zero_le _, Nat.zero_le _⟩, fun p hp => absurd hp (List.not_mem_nil), fun p hp => absurd hp (List.not_mem_nil), ⟨fun h => absurd h (Nat.lt_irrefl 0)⟩, ⟨fun h => absurd h (Nat.lt_irrefl 0)⟩, fun h => absurd h (Nat.lt_irrefl 0), fun h => absurd h (Nat.lt_irrefl 0)⟩
theorem inT_sf3 (W : World) (b : Nat) (hb : b < W.heap.size) (h0 : W.cell? ⟨b, 0, none⟩ = some (.string ⟨#[51]⟩)) (h1 : W.cell? ⟨b, 1, none⟩ = some (.string ⟨#[51]⟩)) : InT W 1 sf3 (.agg #[.bool false, .bool false, .bool false, .bool false, .slice (some ⟨b, 0, none⟩) 1 1, .bool false, .slice none 0 0, .slice none 0 0, .slice none 0 0]) := by
  refine ⟨some ⟨b, 0, none⟩, 1, none, 0, none, 0, none, 0, rfl, ⟨Nat.le_refl _, Nat.le_refl _, Nat.le_refl _, Nat.le_refl _⟩, ⟨by decide, Nat.zero_le _, Nat.zero_le _, Nat.zero_le _⟩, fun p hp => ?_, fun p hp => absurd hp (List.not_mem_nil), ⟨fun _ => ⟨b, 0, rfl, hb, fun i hi => ?_⟩⟩, ⟨fun h => absurd h (Nat.lt_irrefl 0)⟩, fun h => absurd h (Nat.lt_irrefl 0), fun h => absurd h (Nat.lt_irrefl 0)⟩
  · obtain rfl : p = (⟨#[51]⟩, ⟨#[51]⟩) := List.mem_singleton.1 hp
    exact ⟨by decide, by decide⟩
  · have hi0 : i = 0 := by
      have : i < 1 := hi
      omega
    subst hi0
    exact ⟨h0, h1⟩
theorem same_sfN : sameT 1 sfN sfN = true := by decide +kernel
theorem same_sfE : sameT 1 sfE sfE = true := by decide +kernel
theorem same_sf3 : sameT 1 sf3 sf3 = true := by decide +kernel

theorem w_sfNever (w : World) : Calls Try.prog 12 #[] w fun e w' => e = .returned (.agg #[.bool false, .bool false, .bool false, .bool false, .slice none 0 0, .bool false, .slice none 0 0, .slice none 0 0, .slice none 0 0]) ∧ Below w.heap.size w w' := by
  have HB := Hid.mk (fun o => below1 w o)
  go_enter Try.func12, Try.ntmps12
  go_wp2_with fail
  (try simp only [Exit.inBlock, Exit.then])
  refine bodyPost_ret (v := .agg #[.bool false, .bool false, .bool false, .bool false, .slice none 0 0, .bool false, .slice none 0 0, .slice none 0 0, .slice none 0 0]) (by simp [results, Try.results12, go_sem]) rfl ?_
  exact ⟨rfl, by first | exact HB.out _ | exact Below.refl _ _⟩
theorem w_sfEvery (w : World) : Calls Try.prog 13 #[] w fun e w' => e = .returned (.agg #[.bool true, .bool false, .bool false, .bool false, .slice none 0 0, .bool false, .slice none 0 0, .slice none 0 0, .slice none 0 0]) ∧ Below w.heap.size w w' := by
  have HB := Hid.mk (fun o => below1 w o)
  go_enter Try.func13, Try.ntmps13
  go_wp2_with fail
  (try simp only [Exit.inBlock, Exit.then])
  refine bodyPost_ret (v := .agg #[.bool true, .bool false, .bool false, .bool false, .slice none 0 0, .bool false, .slice none 0 0, .slice none 0 0, .slice none 0 0]) (by simp [results, Try.results13, go_sem]) rfl ?_
  exact ⟨rfl, by first | exact HB.out _ | exact Below.refl _ _⟩

theorem w_vThree (w : World) : Calls Try.prog 32 #[.agg #[.int .i64 3, .string ⟨#[51]⟩, .string ⟨#[]⟩, .slice none 0 0, .slice none 0 0]] w fun e w' => e = .returned (.bool true) ∧ Below w.heap.size w w' := by
  have hI : InH w 1 (VT.mk 3 ⟨#[51]⟩ .empty [] []) (.agg #[.int .i64 3, .string ⟨#[51]⟩, .string ⟨#[]⟩, .slice none 0 0, .slice none 0 0]) :=
    ⟨none, 0, none, 0, rfl, (show (1 : Nat) ≤ 140737488355328 by omega), Nat.zero_le _, Nat.zero_le _, Nat.zero_le _, Nat.le_refl _, Nat.le_refl _, fun k hk => absurd hk (List.not_mem_nil), ⟨fun h => absurd h (Nat.lt_irrefl 0)⟩, fun h => absurd h (Nat.lt_irrefl 0)⟩
  have h1 := w_vFormed 1 (VT.mk 3 ⟨#[51]⟩ .empty [] []) _ w hI
  have e1 : formN 1 (VT.mk 3 ⟨#[51]⟩ .empty [] []) = true := by
    show formV 3 ⟨#[51]⟩ .empty 0 0 true true = _
    have e2 : bareB .empty .empty 0 0 = true := by simp [bareB, Lib.toList_data]
    unfold formV
    rw [if_neg (by omega), if_pos rfl, e2, Bool.and_true]
    decide +kernel
  rw [e1] at h1
  exact h1

set_option maxRecDepth 100000 in
set_option maxHeartbeats 1600000 in
theorem w_near3 (w : World) : Calls Try.prog 33 #[.agg #[.int .i64 3, .string ⟨#[51]⟩, .string ⟨#[]⟩, .slice none 0 0, .slice none 0 0], .int .i64 8] w fun e w' => ∃ b, e = .returned (.agg #[.bool false, .bool false, .bool false, .bool false, .slice (some ⟨b, 0, none⟩) 1 1, .bool false, .slice none 0 0, .slice none 0 0, .slice none 0 0]) ∧ (w.heap.size ≤ b ∧ b < w'.heap.size ∧ w'.cell? ⟨b, 0, none⟩ = some (.string ⟨#[51]⟩) ∧ w'.cell? ⟨b, 1, none⟩ = some (.string ⟨#[51]⟩)) ∧ Below w.heap.size w w' := by
  go_enter Try.func33, Try.ntmps33
  go_wp2_with fail
  (try simp only [Exit.inBlock, Exit.then])
  refine bodyPost_ret (v := .agg #[.bool false, .bool false, .bool false, .bool false, .slice (some ⟨w.heap.size + 1 + 1, 0, none⟩) 1 1, .bool false, .slice none 0 0, .slice none 0 0, .slice none 0 0]) (by simp [results, Try.results33, go_sem]) rfl ?_
  exact ⟨_, rfl, ⟨by omega, by first | (simp; done) | (simp; omega), by simp [go_sem], by simp [go_sem]⟩, (((Below.refl _ w).alloc (Nat.le_refl _) _).alloc (by simp) _).alloc (by simp; omega) _⟩

end Go.Proofs.Ytahknjhphbpmiaa
