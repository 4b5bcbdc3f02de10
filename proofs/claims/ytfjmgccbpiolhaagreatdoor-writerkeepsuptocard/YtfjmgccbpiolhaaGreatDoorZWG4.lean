import Derived.Test.YtfjmgccbpiolhaaGreatDoorZWG3
namespace Go.Proofs.YtfjmgccbpiolhaaGreatDoor
open Go.ChangeShapes Go.WideShapes Go.RowKit
set_option linter.unusedVariables false

section
variable {H : Type} {enc : TypeId × Value → H} {W : World}

set_option maxRecDepth 100000 in
theorem vs_openS (fuel : Nat) (cs : List Value) (x : DataW H × List MemPlace) (h : DataW.trod enc Tryz.prog W 0 (fun _ => true) true fuel 22 cs = some x) (hw : WtOk (x.1.weights Tryz.prog 22)) (hb : Rows.uptoBulk x.1 ≤ 1048576) :
    ∃ (io : Option Addr) (icap : Nat) (ts : List VT), cs = [.slice io ts.length icap] ∧ ts.length ≤ icap ∧ ts.length ≤ 140737488355328 ∧ IIn W fuel io ts ∧ ∀ t ∈ ts, ShV fuel t := by
  rcases elems_open Tryz.underlying22 h with ⟨e3, _⟩ | ⟨a, len, cap, n, elems, sp, hfn, e3, hlc, hel, hd, hcell⟩
  · exact ⟨none, 0, [], e3, Nat.le_refl _, Nat.zero_le _, ⟨fun h => by cases h⟩, fun t ht => by cases ht⟩
  · have hbV : Tryz.prog.bytesOf 49 = 88 := by kernel_rfl
    have s3 : len ≤ 140737488355328 := by
      have := hw ((elems.length + sp.length) * 88) (by rw [hd]; simp [DataW.weights, Tryz.underlying22, hbV])
      omega
    have hchild : ∀ i, i < len → ∃ T : VT, ∃ v0 v1 v2 v3 v4 : Value, (W.cell? (a.add (i * 5)) = some v0 ∧ W.cell? (a.add (i * 5 + 1)) = some v1 ∧ W.cell? (a.add (i * 5 + 2)) = some v2 ∧ W.cell? (a.add (i * 5 + 3)) = some v3 ∧ W.cell? (a.add (i * 5 + 4)) = some v4) ∧ InH W fuel T (.agg #[v0, v1, v2, v3, v4]) ∧ ShV fuel T := by
      intro i hil
      obtain ⟨cs', ps, hc1, hc2⟩ := hcell i (by omega)
      rw [g_cellsV] at hc1
      obtain ⟨T, u0, u1, u2, u3, u4, rfl, hT, hTs⟩ := vt_openS n cs' _ hc2 (by
        intro y hy
        apply hw y
        rw [hd]
        simp only [DataW.weights, Tryz.underlying22]
        refine List.mem_cons.2 (.inr (List.mem_append.2 (.inl ?_)))
        exact mem_wAll (List.getElem_mem (by omega)) hy) (by
        rw [hd] at hb
        simp only [Rows.uptoBulk] at hb
        have h2 := bulk_mem (H := H) (d := elems[i]) (l := elems) (List.getElem_mem (by omega))
        show Rows.uptoBulk elems[i] ≤ _
        omega)
      obtain ⟨_, _, hcc⟩ := World.cells?_some hc1
      refine ⟨T, u0, u1, u2, u3, u4, ⟨?_, ?_, ?_, ?_, ?_⟩, hT.le (by omega), hT.shUp hTs (by omega)⟩
      · have := hcc 0 (by omega); rw [Go.Deep.add_add] at this; simpa using this
      · have := hcc 1 (by omega); rw [Go.Deep.add_add] at this; simpa using this
      · have := hcc 2 (by omega); rw [Go.Deep.add_add] at this; simpa using this
      · have := hcc 3 (by omega); rw [Go.Deep.add_add] at this; simpa using this
      · have := hcc 4 (by omega); rw [Go.Deep.add_add] at this; simpa using this
    obtain ⟨Ts, hTs⟩ := Go.Deep.choose_lt hchild
    have hlen : ((List.range len).map Ts).length = len := by simp
    refine ⟨some a, cap, (List.range len).map Ts, by rw [hlen]; exact e3, by rw [hlen]; exact hlc, by rw [hlen]; exact s3, ⟨fun hp => ?_⟩, fun t ht => ?_⟩
    · rw [hlen] at hp
      obtain ⟨w0, w1, w2, w3, w4, ⟨c0, _⟩, _⟩ := hTs 0 hp
      obtain ⟨b, off, spot⟩ := a
      have hspot : spot = none := by simpa [Addr.add] using World.cell?_spot c0
      subst hspot
      refine ⟨b, off, rfl, ?_, fun i hil => ?_⟩
      · have := World.block_lt_of_cell? W _ c0
        simpa [Addr.add] using this
      · rw [hlen] at hil
        obtain ⟨u0, u1, u2, u3, u4, ⟨c0, c1, c2, c3, c4⟩, hT, _⟩ := hTs i hil
        have hit : ((List.range len).map Ts)[i]'(by rw [hlen]; exact hil) = Ts i := by simp
        rw [hit]
        rw [Go.WideShapes.add_plain] at c0 c1 c2 c3 c4
        refine ⟨u0, u1, u2, u3, u4, ⟨c0, ?_, ?_, ?_, ?_⟩, hT⟩
        · rw [Nat.add_assoc]; exact c1
        · rw [Nat.add_assoc]; exact c2
        · rw [Nat.add_assoc]; exact c3
        · rw [Nat.add_assoc]; exact c4
    · obtain ⟨i, hi2, rfl⟩ := List.mem_map.1 ht
      obtain ⟨_, _, _, _, _, _, _, hh⟩ := hTs i (List.mem_range.1 hi2)
      exact hh
end
end Go.Proofs.YtfjmgccbpiolhaaGreatDoor
