import Derived.Test.YtaflpeajapdkdaaZG1
namespace Go.Proofs.Ytaflpeajapdkdaa
open Go.ChangeShapes Go.WideShapes Go.RowKit
set_option linter.unusedVariables false

instance : Inhabited VT := ⟨.mk 0 .empty .empty [] []⟩

theorem InH.up {W : World} : ∀ {h : Nat} {T : VT} {v : Value}, InH W h T v → InH W (h + 1) T v
  | 0, _, _, h => h.elim
  | h + 1, T, v, hI => by
    obtain ⟨io, icap, ko, kcap, e, a1, a2, a3, a4, a5, a6, a7, hk, hi⟩ := hI
    refine ⟨io, icap, ko, kcap, e, a1, a2, a3, a4, a5, a6, a7, hk, fun h0 => ?_⟩
    obtain ⟨b, off, e2, hl, hc⟩ := hi h0
    refine ⟨b, off, e2, hl, fun i hil => ?_⟩
    obtain ⟨v0, v1, v2, v3, v4, c, ht⟩ := hc i hil
    exact ⟨v0, v1, v2, v3, v4, c, InH.up ht⟩
theorem InH.le {W : World} {h h' : Nat} {T : VT} {v : Value} (hI : InH W h T v) (hle : h ≤ h') : InH W h' T v := by
  obtain ⟨k, rfl⟩ := Nat.exists_eq_add_of_le hle
  clear hle
  induction k with
  | zero => exact hI
  | succ k ih => exact ih.up

section
variable {H : Type} {enc : TypeId × Value → H} {W : World}

theorem mem_wAll {P : Program} {e : TypeId} {d : DataW H} {y : Nat} : ∀ {l : List (DataW H)}, d ∈ l → y ∈ d.weights P e → y ∈ DataW.weightsAll P e l
  | a :: r, h, hy => by
    simp only [DataW.weightsAll, List.mem_append]
    rcases List.mem_cons.1 h with rfl | h
    · exact .inl hy
    · exact .inr (mem_wAll h hy)

/-- a slice's elements, each at a lesser fuel -/
theorem elems_open {t e : TypeId} {fuel : Nat} {cs : List Value} {x : DataW H × List MemPlace} (ht : Try.prog.underlying t = some (.slice e)) (h : DataW.trod enc Try.prog W 0 (fun _ => true) true fuel t cs = some x) :
    (cs = [.slice none 0 0] ∧ x.1 = .nil) ∨ ∃ (a : Addr) (len cap n : Nat) (elems sp : List (DataW H)), fuel = n + 1 ∧ cs = [.slice (some a) len cap] ∧ len ≤ cap ∧ elems.length = len ∧ x.1 = .slice elems sp ∧
      ∀ i, (hi : i < elems.length) → ∃ cs' ps, W.cells? 0 (a.add (i * Try.prog.cellsOf e)) (Try.prog.cellsOf e) = some cs' ∧ DataW.trod enc Try.prog W 0 (fun _ => true) true n e cs' = some (elems[i], ps) := by
  rcases DataW.trod_slice ht h with ⟨h0, h1⟩ | ⟨a, len, cap, elems, rest, n, hf, hc, hx, hb, hl, hm, hlen, hel, hsp, hns⟩
  · exact .inl ⟨h0, by rw [h1]⟩
  · refine .inr ⟨a, len, cap, n, elems.map (·.1), rest.map (·.1), hf, hc, hl, by simpa using hlen, by rw [hx], fun i hi => ?_⟩
    have hi' : i < elems.length := by simpa using hi
    have key := hel i (by omega)
    rw [List.getElem?_eq_getElem hi'] at key
    obtain ⟨cs', h1, h2⟩ := Option.bind_eq_some_iff.1 key
    exact ⟨cs', elems[i].2, h1, by rw [h2]; simp⟩

set_option maxRecDepth 100000 in
theorem vt_open : ∀ (fuel : Nat) (cs : List Value) (x : DataW H × List MemPlace), DataW.trod enc Try.prog W 0 (fun _ => true) true fuel 25 cs = some x → WtOk (x.1.weights Try.prog 25) →
    ∃ (T : VT) (v0 v1 v2 v3 v4 : Value), cs = [v0, v1, v2, v3, v4] ∧ InH W fuel T (.agg #[v0, v1, v2, v3, v4]) := by
  intro fuel
  induction fuel using Nat.strongRecOn with
  | ind fuel ih =>
  intro cs x h hw
  obtain ⟨xs, m, hfu, hx, hl, hn, hi⟩ := DataW.trod_struct Try.underlying25 h
  rw [g_cellsV] at hl
  have hn5 : xs.length = 5 := hn
  have h0 := hi 0 _ rfl
  have h1 := hi 1 _ rfl
  have h2 := hi 2 _ rfl
  have h3 := hi 3 _ rfl
  have h4 := hi 4 _ rfl
  match xs, hn5, cs, hl with
  | [y0, y1, y2, y3, y4], _, [v0, v1, v2, v3, v4], _ =>
    simp [g_cells3, g_cells9, g_cellsVs, g_cellsSs] at h0 h1 h2 h3 h4
    have hw' : WtOk (y1.1.weights Try.prog 9 ++ (y2.1.weights Try.prog 9 ++ (y3.1.weights Try.prog 22 ++ y4.1.weights Try.prog 23))) := by
      intro y hy
      apply hw y
      rw [hx]
      simp only [DataW.weights, Try.underlying25, List.map_cons, List.map_nil, DataW.weightsEach, List.append_nil]
      exact List.mem_append.2 (.inr hy)
    obtain ⟨k, e0, _, _⟩ := DataW.trod_int Try.underlying3 h0
    obtain ⟨nm, e1, d1, _⟩ := DataW.trod_string Try.underlying9 h1
    obtain ⟨tx, e2, d2, _⟩ := DataW.trod_string Try.underlying9 h2
    obtain ⟨ko, kcap, keys, Dk, spk, e4, hkc, hkin, hkd⟩ := keys_open h4
    have e0' : v0 = .int .i64 k := by simpa using e0
    have e1' : v1 = .string nm := by simpa using e1
    have e2' : v2 = .string tx := by simpa using e2
    have e4' : v4 = .slice ko keys.length kcap := by simpa using e4
    have s1 : nm.size ≤ 140737488355328 := by
      have := hw' nm.data.toList.length (by rw [d1]; simp [DataW.weights])
      rw [Array.length_toList] at this
      exact this
    have s2 : tx.size ≤ 140737488355328 := by
      have := hw' tx.data.toList.length (by rw [d2]; simp [DataW.weights])
      rw [Array.length_toList] at this
      exact this
    have s4 : keys.length ≤ 140737488355328 ∧ ∀ k ∈ keys, k.size ≤ 140737488355328 := by
      rcases hkd with ⟨_, rfl⟩ | ⟨hd, hdi⟩
      · exact ⟨by simp, by simp⟩
      · have hb : Try.prog.bytesOf 9 = 16 := by kernel_rfl
        constructor
        · have := hw' ((keys.length + spk.length) * 16) (by rw [hd]; simp [DataW.weights, Try.underlying23, hb])
          omega
        · intro kk hk
          obtain ⟨i, hil, rfl⟩ := List.getElem_of_mem hk
          have hgd : keys.getD i ByteArray.empty = keys[i] := by simp [List.getD, hil]
          have := hw' keys[i].data.toList.length (by
            rw [hd]
            simp only [DataW.weights, Try.underlying23]
            refine List.mem_append.2 (.inr (List.mem_append.2 (.inr (List.mem_append.2 (.inr (List.mem_cons.2 (.inr (List.mem_append.2 (.inl ?_)))))))))
            refine mem_wAll (d := Dk i) (List.mem_map.2 ⟨i, List.mem_range.2 hil, rfl⟩) ?_
            rw [hdi i hil, hgd]; simp [DataW.weights])
          rw [Array.length_toList] at this
          exact this
    rcases elems_open Try.underlying22 h3 with ⟨e3, _⟩ | ⟨a, len, cap, n, elems, sp, hfn, e3, hlc, hel, hd, hcell⟩
    · have e3' : v3 = .slice none 0 0 := by simpa using e3
      subst e0' e1' e2' e3' e4'
      refine ⟨.mk k nm tx [] keys, _, _, _, _, _, rfl, ?_⟩
      rw [hfu]
      exact ⟨none, 0, ko, kcap, rfl, s1, s2, by simp [VT.items], s4.1, by simp [VT.items], hkc, s4.2, hkin, fun h => by simp [VT.items] at h⟩
    · have e3' : v3 = .slice (some a) len cap := by simpa using e3
      have hbV : Try.prog.bytesOf 25 = 88 := by kernel_rfl
      have s3 : len ≤ 140737488355328 := by
        have := hw' ((elems.length + sp.length) * 88) (by rw [hd]; simp [DataW.weights, Try.underlying22, hbV])
        omega
      have hchild : ∀ i, i < len → ∃ T : VT, ∃ v0 v1 v2 v3 v4 : Value, (W.cell? (a.add (i * 5)) = some v0 ∧ W.cell? (a.add (i * 5 + 1)) = some v1 ∧ W.cell? (a.add (i * 5 + 2)) = some v2 ∧ W.cell? (a.add (i * 5 + 3)) = some v3 ∧ W.cell? (a.add (i * 5 + 4)) = some v4) ∧ InH W m T (.agg #[v0, v1, v2, v3, v4]) := by
        intro i hil
        obtain ⟨cs', ps, hc1, hc2⟩ := hcell i (by omega)
        rw [g_cellsV] at hc1
        obtain ⟨T, u0, u1, u2, u3, u4, rfl, hT⟩ := ih n (by omega) cs' _ hc2 (by
          intro y hy
          apply hw' y
          rw [hd]
          simp only [DataW.weights, Try.underlying22]
          refine List.mem_append.2 (.inr (List.mem_append.2 (.inr (List.mem_append.2 (.inl (List.mem_cons.2 (.inr (List.mem_append.2 (.inl ?_)))))))))
          exact mem_wAll (List.getElem_mem (by omega)) hy)
        obtain ⟨_, _, hcc⟩ := World.cells?_some hc1
        refine ⟨T, u0, u1, u2, u3, u4, ⟨?_, ?_, ?_, ?_, ?_⟩, hT.le (by omega)⟩
        · have := hcc 0 (by omega); rw [Go.Deep.add_add] at this; simpa using this
        · have := hcc 1 (by omega); rw [Go.Deep.add_add] at this; simpa using this
        · have := hcc 2 (by omega); rw [Go.Deep.add_add] at this; simpa using this
        · have := hcc 3 (by omega); rw [Go.Deep.add_add] at this; simpa using this
        · have := hcc 4 (by omega); rw [Go.Deep.add_add] at this; simpa using this
      obtain ⟨Ts, hTs⟩ := Go.Deep.choose_lt hchild
      subst e0' e1' e2' e3' e4'
      refine ⟨.mk k nm tx ((List.range len).map Ts) keys, _, _, _, _, _, rfl, ?_⟩
      rw [hfu]
      have hitl : (VT.mk k nm tx ((List.range len).map Ts) keys).items.length = len := by simp [VT.items]
      refine ⟨some a, cap, ko, kcap, by rw [hitl]; rfl, s1, s2, by rw [hitl]; exact s3, s4.1, by rw [hitl]; exact hlc, hkc, s4.2, hkin, fun hp => ?_⟩
      rw [hitl] at hp
      obtain ⟨w0, w1, w2, w3, w4, ⟨c0, _⟩, _⟩ := hTs 0 hp
      obtain ⟨b, off, spot⟩ := a
      have hspot : spot = none := by simpa [Addr.add] using World.cell?_spot c0
      subst hspot
      refine ⟨b, off, rfl, ?_, fun i hil => ?_⟩
      · have := World.block_lt_of_cell? W _ c0
        simpa [Addr.add] using this
      · rw [hitl] at hil
        obtain ⟨u0, u1, u2, u3, u4, ⟨c0, c1, c2, c3, c4⟩, hT⟩ := hTs i hil
        have hit : (VT.mk k nm tx ((List.range len).map Ts) keys).items[i]'(by rw [hitl]; exact hil) = Ts i := by simp [VT.items]
        rw [hit]
        rw [Go.WideShapes.add_plain] at c0 c1 c2 c3 c4
        refine ⟨u0, u1, u2, u3, u4, ⟨c0, ?_, ?_, ?_, ?_⟩, hT⟩
        · rw [Nat.add_assoc]; exact c1
        · rw [Nat.add_assoc]; exact c2
        · rw [Nat.add_assoc]; exact c3
        · rw [Nat.add_assoc]; exact c4
end
end Go.Proofs.Ytaflpeajapdkdaa
