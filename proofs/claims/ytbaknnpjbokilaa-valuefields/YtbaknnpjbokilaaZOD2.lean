import Derived.Test.YtbaknnpjbokilaaZOD1
import Derived.Test.YtbaknnpjbokilaaZG2
namespace Go.Proofs.Ytbaknnpjbokilaa
open Go.ChangeShapes Go.WideShapes Go.RowKit
set_option linter.unusedVariables false

section
variable {H : Type} {enc : TypeId × Value → H} {W : World}
set_option maxRecDepth 100000 in
theorem put_open (fuel : Nat) (cs : List Value) (x : DataW H × List MemPlace) (h : DataW.trod enc Try.prog W 0 (fun _ => true) true fuel 27 cs = some x) (hw : WtOk (x.1.weights Try.prog 27)) :
    ∃ (T I : VT) (key name : ByteArray) (v0 v1 v2 v3 v4 i0 i1 i2 i3 i4 : Value) (m : Nat), cs = [v0, v1, v2, v3, v4, i0, i1, i2, i3, i4, .string key, .string name] ∧ InH W m T (.agg #[v0, v1, v2, v3, v4]) ∧ InH W m I (.agg #[i0, i1, i2, i3, i4]) ∧ key.size ≤ 140737488355328 := by
  obtain ⟨xs, m, hfu, hx, hl, hn, hi⟩ := DataW.trod_struct Try.underlying27 h
  have g_cellsP : Try.prog.cellsOf 27 = 12 := by kernel_rfl
  rw [g_cellsP] at hl
  have hn4 : xs.length = 4 := hn
  have h0 := hi 0 _ rfl
  have h1 := hi 1 _ rfl
  have h2 := hi 2 _ rfl
  have h3 := hi 3 _ rfl
  match xs, hn4, cs, hl with
  | [y0, y1, y2, y3], _, [v0, v1, v2, v3, v4, i0, i1, i2, i3, i4, k0, n0], _ =>
    simp [g_cellsV, g_cells9] at h0 h1 h2 h3
    have hw' : WtOk (y0.1.weights Try.prog 25 ++ (y1.1.weights Try.prog 25 ++ (y2.1.weights Try.prog 9 ++ y3.1.weights Try.prog 9))) := by
      intro y hy
      apply hw y
      rw [hx]
      simp only [DataW.weights, Try.underlying27, List.map_cons, List.map_nil, DataW.weightsEach, List.append_nil]
      exact hy
    obtain ⟨T, a0, a1, a2, a3, a4, e1, hT⟩ := vt_open m _ y0 h0 (fun y hy => hw' y (List.mem_append.2 (.inl hy)))
    obtain ⟨I, c0, c1, c2, c3, c4, e2, hI⟩ := vt_open m _ y1 h1 (fun y hy => hw' y (List.mem_append.2 (.inr (List.mem_append.2 (.inl hy)))))
    obtain ⟨key, e3, d3, _⟩ := DataW.trod_string Try.underlying9 h2
    obtain ⟨name, e4, d4, _⟩ := DataW.trod_string Try.underlying9 h3
    have s3 : key.size ≤ 140737488355328 := by
      have := hw' key.data.toList.length (by rw [d3]; simp [DataW.weights])
      rw [Array.length_toList] at this
      exact this
    simp only [List.cons.injEq, and_true] at e1 e2 e3 e4
    obtain ⟨rfl, rfl, rfl, rfl, rfl⟩ := e1
    obtain ⟨rfl, rfl, rfl, rfl, rfl⟩ := e2
    subst e3 e4
    exact ⟨T, I, key, name, _, _, _, _, _, _, _, _, _, _, m, rfl, hT, hI, s3⟩
end
end Go.Proofs.Ytbaknnpjbokilaa
