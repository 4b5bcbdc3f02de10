import Derived.Test.YtdjoelhiahpmlaaM28
import Derived.Test.YtdjoelhiahpmlaaM30
namespace Go.Proofs.Ytdjoelhiahpmlaa
open Go.RowKit Go.Shelf Go.Sort
set_option linter.unusedVariables false
set_option linter.unusedSimpArgs false
attribute [local go_sem] Oper.semAt_some

/-- no value's type, every value's, and that of the number 3 -/
def sfN : TT := .mk false false false false false [] [] [] []
def sfE : TT := .mk true false false false false [] [] [] []
def sf3 : TT := .mk false false false false false [(⟨#[51]⟩, ⟨#[51]⟩)] [] [] []
theorem inT_sfN (W : World) : InT W 1 sfN (.agg #[.bool false, .bool false, .bool false, .bool false, .slice none 0 0, .bool false, .slice none 0 0, .slice none 0 0, .slice none 0 0]) :=
  ⟨none, 0, none, 0, none, 0, none, 0, rfl, ⟨Nat.le_refl _, Nat.le_refl _, Nat.le_refl _, Nat.le_refl _⟩, ⟨Nat.zero_le _, Nat.zero_le _, Nat.zero_le _, Nat.zero_le _⟩, fun p hp => absurd hp (List.not_mem_nil), fun p hp => absurd hp (List.not_mem_nil), ⟨fun h => absurd h (Nat.lt_irrefl 0)⟩, ⟨fun h => absurd h (Nat.lt_irrefl 0)⟩, fun h => absurd h (Nat.lt_irrefl 0), fun h => absurd h (Nat.lt_irrefl 0)⟩
theorem inT_sfE (W : World) : InT W 1 sfE (.agg #[.bool true, .bool false, .bool false, .bool false, .slice none 0 0, .bool false, .slice none 0 0, .slice none 0 0, .slice none 0 0]) :=
  ⟨none, 0, none, 0, none, 0, none, 0, rfl, ⟨Nat.le_refl _, Nat.le_refl _, Nat.le_refl _, Nat.le_refl _⟩, ⟨Nat.zero_le _, Nat.zero_le _, Nat.zero_le _, Nat.zero_le _⟩, fun p hp => absurd hp (List.not_mem_nil), fun p hp => absurd hp (List.not_mem_nil), ⟨fun h => absurd h (Nat.lt_irrefl 0)⟩, ⟨fun h => absurd h (Nat.lt_irrefl 0)⟩, fun h => absurd h (Nat.lt_irrefl 0), fun h => absurd h (Nat.lt_irrefl 0)⟩
theorem inT_sf3 (W : World) (b : Nat) (hb : b < W.heap.size) (h0 : W.cell? ⟨b, 0, none⟩ = some (.string ⟨#[51]⟩)) (h1 : W.cell? ⟨b, 1, none⟩ = some (.string ⟨#[51]⟩)) : InT W 1 sf3 (.agg #[.bool false, .bool false, .bool false, .bool false, .slice (some ⟨b, 0, none⟩) 1 1, .bool false, .slice none 0 0, .slice none 0 0, .slice none 0 0]) := by
  refine ⟨some ⟨b, 0, none⟩, 1, none, 0, none, 0, none, 0, rfl, ⟨Nat.le_refl _, Nat.le_refl _, Nat.le_refl _, Nat.le_refl _⟩, ⟨by decide, Nat.zero_le _, Nat.zero_le _, Nat.zero_le _⟩, fun p hp => ?_, fun p hp => absurd hp (List.not_mem_nil), ⟨fun _ => ⟨b, 0, rfl, hb, fun i hi => ?_⟩⟩, ⟨fun h => absurd h (Nat.lt_irrefl 0)⟩, fun h => absurd h (Nat.lt_irrefl 0), fun h => absurd h (Nat.lt_irrefl 0)⟩
  · obtain rfl : p = (⟨#[51]⟩, ⟨#[51]⟩) := List.mem_singleton.1 hp
    exact ⟨by decide, by decide⟩
  · have hi0 : i = 0 := by
      have : i < 1 := hi
      omega
    subst hi0
    exact ⟨h0, h1⟩
theorem same_sfN : sameT 1 sfN sfN = true := by decide +kernel
theorem same_sfE : sameT 1 sfE sfE = true := by decide +kernel
theorem same_sf3 : sameT 1 sf3 sf3 = true := by decide +kernel

theorem w_sfNever (w : World) : Calls Try.prog 12 #[] w fun e w' => e = .returned (.agg #[.bool false, .bool false, .bool false, .bool false, .slice none 0 0, .bool false, .slice none 0 0, .slice none 0 0, .slice none 0 0]) ∧ Below w.heap.size w w' := by
  have HB := Hid.mk (fun o => below1 w o)
  go_enter Try.func12, Try.ntmps12
  go_wp2_with fail
  (try simp only [Exit.inBlock, Exit.then])
  refine bodyPost_ret (v := .agg #[.bool false, .bool false, .bool false, .bool false, .slice none 0 0, .bool false, .slice none 0 0, .slice none 0 0, .slice none 0 0]) (by simp [results, Try.results12, go_sem]) rfl ?_
  exact ⟨rfl, by first | exact HB.out _ | exact Below.refl _ _⟩
theorem w_sfEvery (w : World) : Calls Try.prog 13 #[] w fun e w' => e = .returned (.agg #[.bool true, .bool false, .bool false, .bool false, .slice none 0 0, .bool false, .slice none 0 0, .slice none 0 0, .slice none 0 0]) ∧ Below w.heap.size w w' := by
  have HB := Hid.mk (fun o => below1 w o)
  go_enter Try.func13, Try.ntmps13
  go_wp2_with fail
  (try simp only [Exit.inBlock, Exit.then])
  refine bodyPost_ret (v := .agg #[.bool true, .bool false, .bool false, .bool false, .slice none 0 0, .bool false, .slice none 0 0, .slice none 0 0, .slice none 0 0]) (by simp [results, Try.results13, go_sem]) rfl ?_
  exact ⟨rfl, by first | exact HB.out _ | exact Below.refl _ _⟩

theorem w_vThree (w : World) : Calls Try.prog 20 #[.agg #[.int .i64 3, .string ⟨#[51]⟩, .string ⟨#[]⟩, .slice none 0 0, .slice none 0 0]] w fun e w' => e = .returned (.bool true) ∧ Below w.heap.size w w' := by
  have hI : InH w 1 (VT.mk 3 ⟨#[51]⟩ .empty [] []) (.agg #[.int .i64 3, .string ⟨#[51]⟩, .string ⟨#[]⟩, .slice none 0 0, .slice none 0 0]) :=
    ⟨none, 0, none, 0, rfl, (show (1 : Nat) ≤ 140737488355328 by omega), Nat.zero_le _, Nat.zero_le _, Nat.zero_le _, Nat.le_refl _, Nat.le_refl _, fun k hk => absurd hk (List.not_mem_nil), ⟨fun h => absurd h (Nat.lt_irrefl 0)⟩, fun h => absurd h (Nat.lt_irrefl 0)⟩
  have h1 := w_vFormed 1 (VT.mk 3 ⟨#[51]⟩ .empty [] []) _ w hI
  have e1 : formN 1 (VT.mk 3 ⟨#[51]⟩ .empty [] []) = true := by
    show formV 3 ⟨#[51]⟩ .empty 0 0 true true = _
    have e2 : bareB .empty .empty 0 0 = true := by simp [bareB, Lib.toList_data]
    unfold formV
    rw [if_neg (by omega), if_pos rfl, e2, Bool.and_true]
    decide +kernel
  rw [e1] at h1
  exact h1

set_option maxRecDepth 100000 in
set_option maxHeartbeats 1600000 in
theorem w_near3 (w : World) : Calls Try.prog 21 #[.agg #[.int .i64 3, .string ⟨#[51]⟩, .string ⟨#[]⟩, .slice none 0 0, .slice none 0 0], .int .i64 8] w fun e w' => ∃ b, e = .returned (.agg #[.bool false, .bool false, .bool false, .bool false, .slice (some ⟨b, 0, none⟩) 1 1, .bool false, .slice none 0 0, .slice none 0 0, .slice none 0 0]) ∧ (w.heap.size ≤ b ∧ b < w'.heap.size ∧ w'.cell? ⟨b, 0, none⟩ = some (.string ⟨#[51]⟩) ∧ w'.cell? ⟨b, 1, none⟩ = some (.string ⟨#[51]⟩)) ∧ Below w.heap.size w w' := by
  go_enter Try.func21, Try.ntmps21
  go_wp2_with fail
  (try simp only [Exit.inBlock, Exit.then])
  refine bodyPost_ret (v := .agg #[.bool false, .bool false, .bool false, .bool false, .slice (some ⟨w.heap.size + 1 + 1, 0, none⟩) 1 1, .bool false, .slice none 0 0, .slice none 0 0, .slice none 0 0]) (by simp [results, Try.results21, go_sem]) rfl ?_
  exact ⟨_, rfl, ⟨by omega, by first | (simp; done) | (simp; omega), by simp [go_sem], by simp [go_sem]⟩, (((Below.refl _ w).alloc (Nat.le_refl _) _).alloc (by simp) _).alloc (by simp; omega) _⟩

end Go.Proofs.Ytdjoelhiahpmlaa
namespace Go.Proofs.Ytdjoelhiahpmlaa
open Go.RowKit Go.Shelf Go.Sort
set_option linter.unusedVariables false
set_option linter.unusedSimpArgs false
attribute [local go_sem] Oper.semAt_some

theorem frozen_row9 {w : World} {B j : Nat} {cs : Array Value} {t : TypeId} (h : w.heap[B]? = some (.cells cs t (0, 0))) : w.frozen? ⟨B, j, none⟩ = false := by simp [World.frozen?, h]
theorem rset9 {u : World} {B i : Nat} {c : Array Value} {t : TypeId} (v : Value) (h : u.heap[B]? = some (.cells c t (0, 0))) : (u.setCell ⟨B, i, none⟩ v).heap[B]? = some (.cells (c.setIfInBounds i v) t (0, 0)) := by
  show (u.heap.modify B _)[B]? = _
  rw [Array.getElem?_modify, if_pos rfl, h]; rfl
set_option maxHeartbeats 1600000 in
theorem rbox_set9 (w : World) (B : Nat) (t : TypeId) (y0 y1 y2 y3 y4 y5 y6 y7 y8 a0 a1 a2 a3 a4 a5 a6 a7 a8 : Value) (h : w.heap[B]? = some (.cells #[y0, y1, y2, y3, y4, y5, y6, y7, y8] t (0, 0))) (wz : World) (hz : wz = (((((((((w.setCell ⟨B, 0, none⟩ (a0)).setCell ⟨B, 1, none⟩ (a1)).setCell ⟨B, 2, none⟩ (a2)).setCell ⟨B, 3, none⟩ (a3)).setCell ⟨B, 4, none⟩ (a4)).setCell ⟨B, 5, none⟩ (a5)).setCell ⟨B, 6, none⟩ (a6)).setCell ⟨B, 7, none⟩ (a7)).setCell ⟨B, 8, none⟩ (a8))) :
    wz.heap[B]? = some (.cells #[a0, a1, a2, a3, a4, a5, a6, a7, a8] t (0, 0)) ∧ (∀ b, b ≠ B → wz.heap[b]? = w.heap[b]?) ∧ wz.heap.size = w.heap.size := by
  subst hz
  refine ⟨rset9 (i := 8) (c := #[a0, a1, a2, a3, a4, a5, a6, a7, y8]) a8 (rset9 (i := 7) (c := #[a0, a1, a2, a3, a4, a5, a6, y7, y8]) a7 (rset9 (i := 6) (c := #[a0, a1, a2, a3, a4, a5, y6, y7, y8]) a6 (rset9 (i := 5) (c := #[a0, a1, a2, a3, a4, y5, y6, y7, y8]) a5 (rset9 (i := 4) (c := #[a0, a1, a2, a3, y4, y5, y6, y7, y8]) a4 (rset9 (i := 3) (c := #[a0, a1, a2, y3, y4, y5, y6, y7, y8]) a3 (rset9 (i := 2) (c := #[a0, a1, y2, y3, y4, y5, y6, y7, y8]) a2 (rset9 (i := 1) (c := #[a0, y1, y2, y3, y4, y5, y6, y7, y8]) a1 (rset9 (i := 0) (c := #[y0, y1, y2, y3, y4, y5, y6, y7, y8]) a0 (h))))))))), fun b hb => ?_, by simp⟩
  rw [Below.heap_setCell _ _ _ _ hb, Below.heap_setCell _ _ _ _ hb, Below.heap_setCell _ _ _ _ hb, Below.heap_setCell _ _ _ _ hb, Below.heap_setCell _ _ _ _ hb, Below.heap_setCell _ _ _ _ hb, Below.heap_setCell _ _ _ _ hb, Below.heap_setCell _ _ _ _ hb, Below.heap_setCell _ _ _ _ hb]

set_option maxRecDepth 100000 in
set_option maxHeartbeats 1600000 in
theorem w_Of3 (w : World) : Calls Try.prog 9 #[.agg #[.int .i64 3, .string ⟨#[51]⟩, .string ⟨#[]⟩, .slice none 0 0, .slice none 0 0]] w fun e w' => ∃ b, e = .returned (.tuple #[.agg #[.bool false, .bool false, .bool false, .bool false, .slice (some ⟨b, 0, none⟩) 1 1, .bool false, .slice none 0 0, .slice none 0 0, .slice none 0 0], .int .i64 0]) ∧ (b < w'.heap.size ∧ w'.cell? ⟨b, 0, none⟩ = some (.string ⟨#[51]⟩) ∧ w'.cell? ⟨b, 1, none⟩ = some (.string ⟨#[51]⟩)) ∧ Below w.heap.size w w' := by
  obtain ⟨W0, hW0⟩ : ∃ W0, (w.alloc (.cells #[.int .i64 3, .string ⟨#[51]⟩, .string ⟨#[]⟩, .slice none 0 0, .slice none 0 0] 25)).alloc (.cells #[.bool false, .bool false, .bool false, .bool false, .slice none 0 0, .bool false, .slice none 0 0, .slice none 0 0, .slice none 0 0] 33) = W0 := ⟨_, rfl⟩
  have HB0 : Hid (Below w.heap.size w W0) := by rw [← hW0]; exact ((Below.refl _ w).alloc (Nat.le_refl _) _).alloc (by simp) _
  have HS0 : Hid (W0.heap.size = w.heap.size + 2) := by show _ = _; rw [← hW0]; simp
  have HC0 : Hid (W0.heap[w.heap.size]? = some (.cells #[.int .i64 3, .string ⟨#[51]⟩, .string ⟨#[]⟩, .slice none 0 0, .slice none 0 0] 25 (0, 0))) := by show _ = _; rw [← hW0]; exact (Below.heap_alloc _ _ _ (by simp)).trans (World.alloc_heap_new w _)
  have HD0 : Hid (W0.heap[w.heap.size + 1]? = some (.cells #[.bool false, .bool false, .bool false, .bool false, .slice none 0 0, .bool false, .slice none 0 0, .slice none 0 0, .slice none 0 0] 33 (0, 0))) := by
    show _ = _
    rw [← hW0]
    have h := World.alloc_heap_new (w.alloc (.cells #[.int .i64 3, .string ⟨#[51]⟩, .string ⟨#[]⟩, .slice none 0 0, .slice none 0 0] 25)) (.cells #[.bool false, .bool false, .bool false, .bool false, .slice none 0 0, .bool false, .slice none 0 0, .slice none 0 0, .slice none 0 0] 33)
    rw [World.size_alloc] at h
    exact h
  have c0 := cell_of_row _ _ 0 _ _ _ HC0.out
  have c1 := cell_of_row _ _ 1 _ _ _ HC0.out
  have c2 := cell_of_row _ _ 2 _ _ _ HC0.out
  have c3 := cell_of_row _ _ 3 _ _ _ HC0.out
  have c4 := cell_of_row _ _ 4 _ _ _ HC0.out
  go_enter Try.func9, Try.ntmps9
  go_wp2_with fail
  refine (w_vThree _).mono ?_
  rintro e w1 ⟨rfl, hb1⟩
  clear c0 c1 c2 c3 c4
  have HB1 := Hid.mk (HB0.out.trans (hb1.mono HB0.out.size))
  have HS1 : Hid (w.heap.size + 2 ≤ w1.heap.size) := by have h1 := hb1.size; have h2 := HS0.out; show _ ≤ _; omega
  have HC1 : Hid (w1.heap[w.heap.size]? = _) := (hb1.block w.heap.size (by have := HS0.out; omega)).trans HC0.out
  have HD1 : Hid (w1.heap[w.heap.size + 1]? = _) := (hb1.block (w.heap.size + 1) (by have := HS0.out; omega)).trans HD0.out
  have c0 := cell_of_row _ _ 0 _ _ _ HC1.out
  have c1 := cell_of_row _ _ 1 _ _ _ HC1.out
  have c2 := cell_of_row _ _ 2 _ _ _ HC1.out
  have c3 := cell_of_row _ _ 3 _ _ _ HC1.out
  have c4 := cell_of_row _ _ 4 _ _ _ HC1.out
  clear hb1 hW0
  go_wp2_with fail
  refine (w_near3 _).mono ?_
  rintro e w2 ⟨b, rfl, ⟨hbb, hbl, e0, e1⟩, hb2⟩
  have HB2 := Hid.mk (HB1.out.trans (hb2.mono HB1.out.size))
  have HD2 : Hid (w2.heap[w.heap.size + 1]? = _) := (hb2.block (w.heap.size + 1) (by have := HS1.out; omega)).trans HD1.out
  clear c0 c1 c2 c3 c4 HC1 HC0 HD0 HD1
  have g0 := cell_of_row _ _ 0 _ _ _ HD2.out
  have g1 := cell_of_row _ _ 1 _ _ _ HD2.out
  have g2 := cell_of_row _ _ 2 _ _ _ HD2.out
  have g3 := cell_of_row _ _ 3 _ _ _ HD2.out
  have g4 := cell_of_row _ _ 4 _ _ _ HD2.out
  have g5 := cell_of_row _ _ 5 _ _ _ HD2.out
  have g6 := cell_of_row _ _ 6 _ _ _ HD2.out
  have g7 := cell_of_row _ _ 7 _ _ _ HD2.out
  have g8 := cell_of_row _ _ 8 _ _ _ HD2.out
  have f0 := frozen_row9 (j := 0) HD2.out
  have f1 := frozen_row9 (j := 1) HD2.out
  have f2 := frozen_row9 (j := 2) HD2.out
  have f3 := frozen_row9 (j := 3) HD2.out
  have f4 := frozen_row9 (j := 4) HD2.out
  have f5 := frozen_row9 (j := 5) HD2.out
  have f6 := frozen_row9 (j := 6) HD2.out
  have f7 := frozen_row9 (j := 7) HD2.out
  have f8 := frozen_row9 (j := 8) HD2.out
  go_wp2_with fail
  (try simp only [Exit.inBlock, Exit.then])
  generalize hz9 : (((((((((w2.setCell ⟨w.heap.size + 1, 0, none⟩ (.bool false)).setCell ⟨w.heap.size + 1, 1, none⟩ (.bool false)).setCell ⟨w.heap.size + 1, 2, none⟩ (.bool false)).setCell ⟨w.heap.size + 1, 3, none⟩ (.bool false)).setCell ⟨w.heap.size + 1, 4, none⟩ (.slice (some ⟨b, 0, none⟩) 1 1)).setCell ⟨w.heap.size + 1, 5, none⟩ (.bool false)).setCell ⟨w.heap.size + 1, 6, none⟩ (.slice none 0 0)).setCell ⟨w.heap.size + 1, 7, none⟩ (.slice none 0 0)).setCell ⟨w.heap.size + 1, 8, none⟩ (.slice none 0 0)) = wz
  obtain ⟨e7, k7, s7⟩ := rbox_set9 w2 _ _ _ _ _ _ _ _ _ _ _ _ _ _ _ _ _ _ _ _ HD2.out wz hz9.symm
  have d0 := cell_of_row _ _ 0 _ _ _ e7
  have d1 := cell_of_row _ _ 1 _ _ _ e7
  have d2 := cell_of_row _ _ 2 _ _ _ e7
  have d3 := cell_of_row _ _ 3 _ _ _ e7
  have d4 := cell_of_row _ _ 4 _ _ _ e7
  have d5 := cell_of_row _ _ 5 _ _ _ e7
  have d6 := cell_of_row _ _ 6 _ _ _ e7
  have d7 := cell_of_row _ _ 7 _ _ _ e7
  have d8 := cell_of_row _ _ 8 _ _ _ e7
  have hbz : Below w.heap.size w wz := by rw [← hz9]; exact (((((((((HB2.out.setCell (p := ⟨w.heap.size + 1, 0, none⟩) (by show w.heap.size ≤ w.heap.size + 1; omega) _).setCell (p := ⟨w.heap.size + 1, 1, none⟩) (by show w.heap.size ≤ w.heap.size + 1; omega) _).setCell (p := ⟨w.heap.size + 1, 2, none⟩) (by show w.heap.size ≤ w.heap.size + 1; omega) _).setCell (p := ⟨w.heap.size + 1, 3, none⟩) (by show w.heap.size ≤ w.heap.size + 1; omega) _).setCell (p := ⟨w.heap.size + 1, 4, none⟩) (by show w.heap.size ≤ w.heap.size + 1; omega) _).setCell (p := ⟨w.heap.size + 1, 5, none⟩) (by show w.heap.size ≤ w.heap.size + 1; omega) _).setCell (p := ⟨w.heap.size + 1, 6, none⟩) (by show w.heap.size ≤ w.heap.size + 1; omega) _).setCell (p := ⟨w.heap.size + 1, 7, none⟩) (by show w.heap.size ≤ w.heap.size + 1; omega) _).setCell (p := ⟨w.heap.size + 1, 8, none⟩) (by show w.heap.size ≤ w.heap.size + 1; omega) _)
  have hs1 := HS1.out
  have hcell : ∀ j, wz.cell? ⟨b, j, none⟩ = w2.cell? ⟨b, j, none⟩ := fun j => by unfold World.cell?; rw [k7 b (by omega)]
  refine bodyPost_ret (v := .tuple #[.agg #[.bool false, .bool false, .bool false, .bool false, .slice (some ⟨b, 0, none⟩) 1 1, .bool false, .slice none 0 0, .slice none 0 0, .slice none 0 0], .int .i64 0]) (by simp [results, Try.results9, go_sem, d0, d1, d2, d3, d4, d5, d6, d7, d8]) rfl ?_
  exact ⟨b, rfl, ⟨by omega, (hcell 0).trans e0, (hcell 1).trans e1⟩, hbz⟩

set_option maxRecDepth 100000 in
set_option maxHeartbeats 3200000 in
theorem w_lives9 (w : World) : Calls Try.prog 4 #[] w fun e w' => e = .returned (.bool true) ∧ Below w.heap.size w w' := by
  go_enter Try.func4, Try.ntmps4
  go_wp2_with fail
  refine (w_sfNever _).mono ?_
  rintro e w1 ⟨rfl, hb1⟩
  have HB1 := Hid.mk hb1
  clear hb1
  go_wp2_with fail
  refine (w_sfEvery _).mono ?_
  rintro e w2 ⟨rfl, hb2⟩
  have h12 : Below w1.heap.size w1 w2 := (below1 w1 (.cells #[.bool false, .bool false, .bool false, .bool false, .slice none 0 0, .bool false, .slice none 0 0, .slice none 0 0, .slice none 0 0] 33)).trans (hb2.mono (by simp))
  have HB2 := Hid.mk (HB1.out.trans (h12.mono HB1.out.size))
  have HR1 : Hid (w2.heap[w1.heap.size]? = some (.cells #[.bool false, .bool false, .bool false, .bool false, .slice none 0 0, .bool false, .slice none 0 0, .slice none 0 0, .slice none 0 0] 33 (0, 0))) := (hb2.block w1.heap.size (by simp)).trans (World.alloc_heap_new w1 _)
  have HL1 : Hid (w1.heap.size < w2.heap.size) := by have h1 := hb2.size; simp at h1; show _ < _; omega
  clear hb2 h12
  go_wp2_with fail
  refine (w_Of3 _).mono ?_
  rintro e w3 ⟨b, rfl, ⟨hbl, e0, e1⟩, hb3⟩
  have h23 : Below w2.heap.size w2 w3 := (below1 w2 (.cells #[.bool true, .bool false, .bool false, .bool false, .slice none 0 0, .bool false, .slice none 0 0, .slice none 0 0, .slice none 0 0] 33)).trans (hb3.mono (by simp))
  have HB3 := Hid.mk (HB2.out.trans (h23.mono HB2.out.size))
  have HR1b : Hid (w3.heap[w1.heap.size]? = _) := (h23.block w1.heap.size HL1.out).trans HR1.out
  have HR2 : Hid (w3.heap[w2.heap.size]? = some (.cells #[.bool true, .bool false, .bool false, .bool false, .slice none 0 0, .bool false, .slice none 0 0, .slice none 0 0, .slice none 0 0] 33 (0, 0))) := (hb3.block w2.heap.size (by simp)).trans (World.alloc_heap_new w2 _)
  have HL2 : Hid (w1.heap.size < w3.heap.size ∧ w2.heap.size < w3.heap.size) := by have h1 := hb3.size; have h2 := HL1.out; simp at h1; exact ⟨by omega, by omega⟩
  clear hb3 h23 HR1 HL1
  obtain ⟨W4, hW4⟩ : ∃ W4, (w3.alloc (.cells #[.bool false, .bool false, .bool false, .bool false, .slice (some ⟨b, 0, none⟩) 1 1, .bool false, .slice none 0 0, .slice none 0 0, .slice none 0 0] 33)).alloc (.cells #[.string ⟨#[51]⟩, .string ⟨#[51]⟩] 42) = W4 := ⟨_, rfl⟩
  have h34 : Below w3.heap.size w3 W4 := by rw [← hW4]; exact ((Below.refl _ w3).alloc (Nat.le_refl _) _).alloc (by simp) _
  have hT1 : InT W4 1 sf3 (.agg #[.bool false, .bool false, .bool false, .bool false, .slice (some ⟨b, 0, none⟩) 1 1, .bool false, .slice none 0 0, .slice none 0 0, .slice none 0 0]) := inT_sf3 W4 b (by have := h34.size; omega) ((h34.cell (p := ⟨_, _, _⟩) hbl).trans e0) ((h34.cell (p := ⟨_, _, _⟩) hbl).trans e1)
  have hT2 : InT W4 1 sf3 (.agg #[.bool false, .bool false, .bool false, .bool false, .slice (some ⟨w3.heap.size + 1, 0, none⟩) 1 1, .bool false, .slice none 0 0, .slice none 0 0, .slice none 0 0]) := inT_sf3 W4 (w3.heap.size + 1) (by rw [← hW4]; simp) (by rw [← hW4]; simp [go_sem]) (by rw [← hW4]; simp [go_sem])
  have HC4 := Hid.mk (w_kSameType 1 sf3 sf3 _ _ W4 hT1 hT2)
  rw [same_sf3] at HC4
  have HB4 := Hid.mk (HB3.out.trans (h34.mono HB3.out.size))
  have HR1c : Hid (W4.heap[w1.heap.size]? = _) := (h34.block w1.heap.size HL2.out.1).trans HR1b.out
  have HR2c : Hid (W4.heap[w2.heap.size]? = _) := (h34.block w2.heap.size HL2.out.2).trans HR2.out
  have HL4 : Hid (w1.heap.size < W4.heap.size ∧ w2.heap.size < W4.heap.size) := by have h1 := h34.size; have h2 := HL2.out; exact ⟨by omega, by omega⟩
  clear hT1 hT2 h34 e0 e1 hbl HR1b HR2 HL2
  go_wp2_with fail
  refine HC4.out.mono ?_
  rintro e w5 ⟨rfl, hb5⟩
  have HB5 := Hid.mk (HB4.out.trans (hb5.mono HB4.out.size))
  have HR1d : Hid (w5.heap[w1.heap.size]? = _) := (hb5.block w1.heap.size HL4.out.1).trans HR1c.out
  have HR2d : Hid (w5.heap[w2.heap.size]? = _) := (hb5.block w2.heap.size HL4.out.2).trans HR2c.out
  have HL5 : Hid (w2.heap.size < w5.heap.size) := Nat.lt_of_lt_of_le HL4.out.2 hb5.size
  clear hb5 hW4 HC4 HR1c HR2c HL4
  have c0 := cell_of_row _ _ 0 _ _ _ HR1d.out
  have c1 := cell_of_row _ _ 1 _ _ _ HR1d.out
  have c2 := cell_of_row _ _ 2 _ _ _ HR1d.out
  have c3 := cell_of_row _ _ 3 _ _ _ HR1d.out
  have c4 := cell_of_row _ _ 4 _ _ _ HR1d.out
  have c5 := cell_of_row _ _ 5 _ _ _ HR1d.out
  have c6 := cell_of_row _ _ 6 _ _ _ HR1d.out
  have c7 := cell_of_row _ _ 7 _ _ _ HR1d.out
  have c8 := cell_of_row _ _ 8 _ _ _ HR1d.out
  have HC5 := Hid.mk (w_kSameType 1 sfN sfN _ _ w5 (inT_sfN w5) (inT_sfN w5))
  rw [same_sfN] at HC5
  go_wp2_with fail
  refine HC5.out.mono ?_
  rintro e w6 ⟨rfl, hb6⟩
  have HB6 := Hid.mk (HB5.out.trans (hb6.mono HB5.out.size))
  have HR2e : Hid (w6.heap[w2.heap.size]? = _) := (hb6.block w2.heap.size HL5.out).trans HR2d.out
  clear hb6 c0 c1 c2 c3 c4 c5 c6 c7 c8 HC5 HR1d HR2d
  have c0 := cell_of_row _ _ 0 _ _ _ HR2e.out
  have c1 := cell_of_row _ _ 1 _ _ _ HR2e.out
  have c2 := cell_of_row _ _ 2 _ _ _ HR2e.out
  have c3 := cell_of_row _ _ 3 _ _ _ HR2e.out
  have c4 := cell_of_row _ _ 4 _ _ _ HR2e.out
  have c5 := cell_of_row _ _ 5 _ _ _ HR2e.out
  have c6 := cell_of_row _ _ 6 _ _ _ HR2e.out
  have c7 := cell_of_row _ _ 7 _ _ _ HR2e.out
  have c8 := cell_of_row _ _ 8 _ _ _ HR2e.out
  have HC6 := Hid.mk (w_kSameType 1 sfE sfE _ _ w6 (inT_sfE w6) (inT_sfE w6))
  rw [same_sfE] at HC6
  go_wp2_with fail
  refine HC6.out.mono ?_
  rintro e w7 ⟨rfl, hb7⟩
  have HB7 := Hid.mk (HB6.out.trans (hb7.mono HB6.out.size))
  clear hb7 c0 c1 c2 c3 c4 c5 c6 c7 c8
  go_wp2_with fail
  go_ret
  exact ⟨by first | rfl | simp, HB7.out⟩

end Go.Proofs.Ytdjoelhiahpmlaa
