import Derived.Test.YtcadknhedfnaoaaGreatDoorM9
import Derived.Test.YtcadknhedfnaoaaGreatDoorM24
namespace Go.Proofs.YtcadknhedfnaoaaGreatDoor
open Go.ChangeShapes Go.WideShapes Go.RowKit
set_option linter.unusedVariables false

instance : Inhabited NT := ⟨.mk 0 0 .empty (.mk 0 .empty .empty [] []) [] []⟩
theorem g_cellsN : Tryz.prog.cellsOf 28 = 10 := by kernel_rfl
theorem g_cellsNs : Tryz.prog.cellsOf 26 = 1 := by kernel_rfl
def ndF (l : List Value) : Fin 10 → Value := fun j => l.getD j.1 (.int .i64 0)

section
variable {H : Type} {enc : TypeId × Value → H} {W : World}

set_option maxRecDepth 100000 in
set_option maxHeartbeats 1600000 in
/-- a filter as it is handed in, as a tree -/
theorem nn_open : ∀ (fuel : Nat) (cs : List Value) (x : DataW H × List MemPlace), DataW.trod enc Tryz.prog W 0 (fun _ => true) true fuel 28 cs = some x → WtOk (x.1.weights Tryz.prog 28) →
    ∃ (T : NT) (c0 c1 c2 c3 c4 c5 c6 c7 c8 c9 : Value), cs = [c0, c1, c2, c3, c4, c5, c6, c7, c8, c9] ∧ InA W fuel T (.agg #[c0, c1, c2, c3, c4, c5, c6, c7, c8, c9]) := by
  intro fuel
  induction fuel using Nat.strongRecOn with
  | ind fuel ih =>
  intro cs x h hw
  obtain ⟨xs, m, hfu, hx, hl, hn, hi⟩ := DataW.trod_struct Tryz.underlying28 h
  rw [g_cellsN] at hl
  have hn6 : xs.length = 6 := hn
  have h0 := hi 0 _ rfl
  have h1 := hi 1 _ rfl
  have h2 := hi 2 _ rfl
  have h3 := hi 3 _ rfl
  have h4 := hi 4 _ rfl
  have h5 := hi 5 _ rfl
  match xs, hn6, cs, hl with
  | [y0, y1, y2, y3, y4, y5], _, [v0, v1, v2, v3, v4, v5, v6, v7, v8, v9], _ =>
    simp [g_cells3, g_cells9, g_cellsV, g_cellsSs, g_cellsNs] at h0 h1 h2 h3 h4 h5
    have hw' : WtOk (y2.1.weights Tryz.prog 9 ++ (y3.1.weights Tryz.prog 25 ++ (y4.1.weights Tryz.prog 23 ++ y5.1.weights Tryz.prog 26))) := by
      intro y hy
      apply hw y
      rw [hx]
      simp only [DataW.weights, Tryz.underlying28, List.map_cons, List.map_nil, DataW.weightsEach, List.append_nil]
      exact List.mem_append.2 (.inr (List.mem_append.2 (.inr hy)))
    obtain ⟨k, e0, _, _⟩ := DataW.trod_int Tryz.underlying3 h0
    obtain ⟨k1, e1, _, _⟩ := DataW.trod_int Tryz.underlying3 h1
    obtain ⟨tx, e2, d2, _⟩ := DataW.trod_string Tryz.underlying9 h2
    obtain ⟨V, u0, u1, u2, u3, u4, e3, hV⟩ := vt_open m _ _ h3 (fun y hy => hw' y (List.mem_append.2 (.inr (List.mem_append.2 (.inl hy)))))
    obtain ⟨ko, kcap, keys, Dk, spk, e4, hkc, hkin, hkd⟩ := keys_open h4
    have e0' : v0 = .int .i64 k := by simpa using e0
    have e1' : v1 = .int .i64 k1 := by simpa using e1
    have e2' : v2 = .string tx := by simpa using e2
    have e4' : v8 = .slice ko keys.length kcap := by simpa using e4
    simp at e3
    obtain ⟨rfl, rfl, rfl, rfl, rfl⟩ := e3
    have s2 : tx.size ≤ 140737488355328 := by
      have := hw' tx.data.toList.length (by rw [d2]; simp [DataW.weights])
      rw [Array.length_toList] at this
      exact this
    have s4 : keys.length ≤ 140737488355328 ∧ ∀ k ∈ keys, k.size ≤ 140737488355328 := by
      rcases hkd with ⟨_, rfl⟩ | ⟨hd, hdi⟩
      · exact ⟨by simp, by simp⟩
      · have hb : Tryz.prog.bytesOf 9 = 16 := by kernel_rfl
        constructor
        · have := hw' ((keys.length + spk.length) * 16) (by rw [hd]; simp [DataW.weights, Tryz.underlying23, hb])
          omega
        · intro kk hk
          obtain ⟨i, hil, rfl⟩ := List.getElem_of_mem hk
          have hgd : keys.getD i ByteArray.empty = keys[i] := by simp [List.getD, hil]
          have := hw' keys[i].data.toList.length (by
            rw [hd]
            simp only [DataW.weights, Tryz.underlying23]
            refine List.mem_append.2 (.inr (List.mem_append.2 (.inr (List.mem_append.2 (.inl (List.mem_cons.2 (.inr (List.mem_append.2 (.inl ?_)))))))))
            refine mem_wAll (d := Dk i) (List.mem_map.2 ⟨i, List.mem_range.2 hil, rfl⟩) ?_
            rw [hdi i hil, hgd]; simp [DataW.weights])
          rw [Array.length_toList] at this
          exact this
    obtain ⟨io, icap, yo, ycap, hve, hvr⟩ : ∃ io icap yo ycap, (Value.agg #[v3, v4, v5, v6, v7]) = .agg #[.int .i64 V.kind, .string V.num, .string V.text, .slice io V.items.length icap, .slice yo V.keys.length ycap] ∧ InV (fun _ => True) W (m + 1) V (.agg #[v3, v4, v5, v6, v7]) := by
      have hU := (InV.ofH hV).up
      obtain ⟨io, icap, yo, ycap, e, _⟩ := id hU
      exact ⟨io, icap, yo, ycap, e, hU⟩
    simp only [Value.agg.injEq, Array.mk.injEq, List.cons.injEq, and_true] at hve
    obtain ⟨rfl, rfl, rfl, rfl, rfl⟩ := hve
    have hnm : 0 < keys.length → ∃ b off, ko = some ⟨b, off, none⟩ ∧ True ∧ b < W.heap.size ∧ ∀ i, i < keys.length → W.cell? ⟨b, off + i, none⟩ = some (.string (keys.getD i .empty)) := fun h0 => by
      obtain ⟨b, off, e, hl, hc⟩ := hkin.row h0
      exact ⟨b, off, e, trivial, hl, hc⟩
    rcases elems_open Tryz.underlying26 h5 with ⟨e5, _⟩ | ⟨a, len, cap, n, elems, sp, hfn, e5, hlc, hel, hd, hcell⟩
    · have e5' : v9 = .slice none 0 0 := by simpa using e5
      subst e0' e1' e2' e5' e4'
      refine ⟨.mk k k1 tx V keys [], _, _, _, _, _, _, _, _, _, _, rfl, ?_⟩
      rw [hfu]
      exact ⟨io, icap, yo, ycap, ko, kcap, none, 0, rfl, s2, hvr, ⟨hkc, s4.1, s4.2⟩, ⟨Nat.le_refl _, Nat.zero_le _⟩, hnm, fun h => absurd h (by show ¬ 0 < 0; omega)⟩
    · have e5' : v9 = .slice (some a) len cap := by simpa using e5
      have hbN : Tryz.prog.bytesOf 28 = 168 := by kernel_rfl
      have s3 : len ≤ 140737488355328 := by
        have := hw' ((elems.length + sp.length) * 168) (by rw [hd]; simp [DataW.weights, Tryz.underlying26, hbN])
        omega
      have hchild : ∀ i, i < len → ∃ T : NT, ∃ c : Fin 10 → Value, (∀ j : Fin 10, W.cell? (a.add (i * 10 + j.1)) = some (c j)) ∧ InA W m T (ndV c) := by
        intro i hil
        obtain ⟨cs', ps, hc1, hc2⟩ := hcell i (by omega)
        rw [g_cellsN] at hc1
        obtain ⟨T, q0, q1, q2, q3, q4, q5, q6, q7, q8, q9, rfl, hT⟩ := ih n (by omega) cs' _ hc2 (by
          intro y hy
          apply hw' y
          rw [hd]
          simp only [DataW.weights, Tryz.underlying26]
          refine List.mem_append.2 (.inr (List.mem_append.2 (.inr (List.mem_append.2 (.inr (List.mem_cons.2 (.inr (List.mem_append.2 (.inl ?_)))))))))
          exact mem_wAll (List.getElem_mem (by omega)) hy)
        obtain ⟨_, _, hcc⟩ := World.cells?_some hc1
        refine ⟨T, ndF [q0, q1, q2, q3, q4, q5, q6, q7, q8, q9], fun j => ?_, InN.le hT (by omega)⟩
        have hj := j.2
        have := hcc j.1 hj
        rw [Go.Deep.add_add] at this
        rw [this]
        unfold ndF
        rw [List.getD_eq_getElem?_getD, List.getElem?_eq_getElem (by simp)]
        rfl
      obtain ⟨Ts, hTs⟩ := Go.Deep.choose_lt hchild
      subst e0' e1' e2' e5' e4'
      refine ⟨.mk k k1 tx V keys ((List.range len).map Ts), _, _, _, _, _, _, _, _, _, _, rfl, ?_⟩
      rw [hfu]
      have hitl : (NT.mk k k1 tx V keys ((List.range len).map Ts)).kids.length = len := by simp [NT.kids]
      refine ⟨io, icap, yo, ycap, ko, kcap, some a, cap, by rw [hitl]; rfl, s2, hvr, ⟨hkc, s4.1, s4.2⟩, by rw [hitl]; exact ⟨hlc, s3⟩, hnm, fun hp => ?_⟩
      rw [hitl] at hp
      obtain ⟨c, hc, _⟩ := hTs 0 hp
      have c0 : W.cell? (a.add (0 * 10 + 0)) = some (c 0) := hc 0
      obtain ⟨b, off, spot⟩ := a
      have hspot : spot = none := by simpa [Addr.add] using World.cell?_spot c0
      subst hspot
      refine ⟨b, off, rfl, trivial, ?_, fun i hil => ?_⟩
      · have := World.block_lt_of_cell? W _ c0
        simpa [Addr.add] using this
      · rw [hitl] at hil
        obtain ⟨c, hc, hT⟩ := hTs i hil
        have hit : (NT.mk k k1 tx V keys ((List.range len).map Ts)).kids[i]'(by rw [hitl]; exact hil) = Ts i := by simp [NT.kids]
        rw [hit]
        refine ⟨c, fun j => ?_, hT⟩
        have := hc j
        rw [Go.WideShapes.add_plain, ← Nat.add_assoc] at this
        exact this
end
end Go.Proofs.YtcadknhedfnaoaaGreatDoor
