import Derived.Test.YtahknjhphbpmiaaZCM3
namespace Go.Proofs.Ytahknjhphbpmiaa
open Go.RowKit Go.Shelf Go.Sort
set_option linter.unusedVariables false
set_option linter.unusedSimpArgs false
attribute [local go_sem] Oper.semAt_some

set_option maxRecDepth 100000 in
set_option maxHeartbeats 1600000 in
theorem w_bySpan (al ah bl bh : ByteArray) (w : World) (h1 : al.size ≤ 140737488355328) (h2 : ah.size ≤ 140737488355328) (h3 : bl.size ≤ 140737488355328) (h4 : bh.size ≤ 140737488355328) : Calls Try.prog 66 #[.agg #[.string al, .string ah], .agg #[.string bl, .string bh]] w fun e w' => e = .returned (.int .i64 (spC (al, ah) (bl, bh))) ∧ Below w.heap.size w w' := by
  have HX := Hid.mk (bx2_new w #[.string al, .string ah] #[.string bl, .string bh] 41)
  obtain ⟨W0, hW0⟩ : ∃ W0, (w.alloc (.cells #[.string al, .string ah] 41)).alloc (.cells #[.string bl, .string bh] 41) = W0 := ⟨_, rfl⟩
  rw [hW0] at HX
  have c0 : W0.cell? ⟨w.heap.size, 0, none⟩ = some (.string al) := HX.out.one 0
  have c1 : W0.cell? ⟨w.heap.size, 1, none⟩ = some (.string ah) := HX.out.one 1
  have c2 : W0.cell? ⟨w.heap.size + 1, 0, none⟩ = some (.string bl) := HX.out.two 0
  have c3 : W0.cell? ⟨w.heap.size + 1, 1, none⟩ = some (.string bh) := HX.out.two 1
  have HG : Hid (spC (al, ah) (bl, bh) = Pl.orI (bdC al bl (-1)) (bdC ah bh 1)) := rfl
  have C1 := Hid.mk (fun (d : Nat) (os : Array Obj) => w_byBound al bl (-1) (grow (redrawn W0 d) os) (.inl rfl) h1 h3)
  have C2 := Hid.mk (fun (d : Nat) (os : Array Obj) => w_byBound ah bh 1 (grow (redrawn W0 d) os) (.inr rfl) h2 h4)
  generalize bdC al bl (-1) = x at C1 HG
  generalize bdC ah bh 1 = y at C2 HG
  have A0 := fun d os => cell_regrown c0 d os
  have A1 := fun d os => cell_regrown c1 d os
  have A2 := fun d os => cell_regrown c2 d os
  have A3 := fun d os => cell_regrown c3 d os
  clear h1 h2 h3 h4
  go_enter Try.func66, Try.ntmps66
  go_wp2_with fail
  refine wp_region_quiet_at 10 (by kernel_rfl) (by kernel_rfl) (by kernel_rfl) (by kernel_rfl) (by kernel_rfl) ?_
  simp only [List.take_succ_cons, List.take_zero, List.drop_succ_cons, List.drop_zero]
  iterate 5 (go_big_quiet_step (exact Calls.regrown_of (C1.out _ _)))
  iterate 5 (go_big_quiet_step (exact Calls.regrown_of (C2.out _ _)))
  refine wpQuiet_nil ?_
  intro w9 hw'
  have hb9 : Below W0.heap.size W0 w9 := by
    obtain ⟨⟨dq, osq⟩, rfl⟩ := hw'
    exact below_regrown W0 dq osq
  have HX9 := Hid.mk (HX.out.keep hb9)
  clear hw' hb9 hW0 A0 A1 A2 A3 c0 c1 c2 c3 C1 C2
  go_wp2_with fail
  refine (w_Or2 w9.heap.size x y _ (by simp) (by simp)).mono ?_
  rintro e w1 ⟨rfl, rfl⟩
  go_wp2_with fail
  go_ret
  exact ⟨by rw [HG.out]; rfl, HX9.out.below.alloc HX9.out.below.size _⟩
end Go.Proofs.Ytahknjhphbpmiaa
