import Derived.Test.YtapjfocjeligiaaGreatDoorM13
import Derived.Test.YtapjfocjeligiaaGreatDoorM17
import Derived.Test.YtapjfocjeligiaaGreatDoorRows
import Derived.WideKeyArgs
import Derived.WideKeyElems4
import Derived.Deep.Slices
import Derived.OpenShut
import Derived.WalkKit
namespace Go.Proofs.YtapjfocjeligiaaGreatDoor
open Go.ChangeShapes Go.WideShapes Go.RowKit
set_option linter.unusedVariables false

theorem IIn.le {W : World} {h h' : Nat} {io : Option Addr} {ts : List VT} (H : IIn W h io ts) (hh : h ≤ h') : IIn W h' io ts := by
  refine ⟨fun h0 => ?_⟩
  obtain ⟨b, off, e, hl, hc⟩ := H.row h0
  refine ⟨b, off, e, hl, fun i hi => ?_⟩
  obtain ⟨v0, v1, v2, v3, v4, c, ht⟩ := hc i hi
  exact ⟨v0, v1, v2, v3, v4, c, ht.le hh⟩

section
variable {H : Type} {enc : TypeId × Value → H} {W : World}

set_option maxRecDepth 100000 in
theorem vs_open (fuel : Nat) (cs : List Value) (x : DataW H × List MemPlace) (h : DataW.trod enc Tryz.prog W 0 (fun _ => true) true fuel 35 cs = some x) (hw : WtOk (x.1.weights Tryz.prog 35)) :
    ∃ (io : Option Addr) (icap : Nat) (ts : List VT), cs = [.slice io ts.length icap] ∧ ts.length ≤ icap ∧ ts.length ≤ 140737488355328 ∧ IIn W fuel io ts := by
  rcases elems_open Tryz.underlying35 h with ⟨e3, _⟩ | ⟨a, len, cap, n, elems, sp, hfn, e3, hlc, hel, hd, hcell⟩
  · exact ⟨none, 0, [], e3, Nat.le_refl _, Nat.zero_le _, ⟨fun h => by cases h⟩⟩
  · have hbV : Tryz.prog.bytesOf 37 = 88 := by kernel_rfl
    have s3 : len ≤ 140737488355328 := by
      have := hw ((elems.length + sp.length) * 88) (by rw [hd]; simp [DataW.weights, Tryz.underlying35, hbV])
      omega
    have hchild : ∀ i, i < len → ∃ T : VT, ∃ v0 v1 v2 v3 v4 : Value, (W.cell? (a.add (i * 5)) = some v0 ∧ W.cell? (a.add (i * 5 + 1)) = some v1 ∧ W.cell? (a.add (i * 5 + 2)) = some v2 ∧ W.cell? (a.add (i * 5 + 3)) = some v3 ∧ W.cell? (a.add (i * 5 + 4)) = some v4) ∧ InH W fuel T (.agg #[v0, v1, v2, v3, v4]) := by
      intro i hil
      obtain ⟨cs', ps, hc1, hc2⟩ := hcell i (by omega)
      rw [g_cellsV] at hc1
      obtain ⟨T, u0, u1, u2, u3, u4, rfl, hT⟩ := vt_open n cs' _ hc2 (by
        intro y hy
        apply hw y
        rw [hd]
        simp only [DataW.weights, Tryz.underlying35]
        refine List.mem_cons.2 (.inr (List.mem_append.2 (.inl ?_)))
        exact mem_wAll (List.getElem_mem (by omega)) hy)
      obtain ⟨_, _, hcc⟩ := World.cells?_some hc1
      refine ⟨T, u0, u1, u2, u3, u4, ⟨?_, ?_, ?_, ?_, ?_⟩, hT.le (by omega)⟩
      · have := hcc 0 (by omega); rw [Go.Deep.add_add] at this; simpa using this
      · have := hcc 1 (by omega); rw [Go.Deep.add_add] at this; simpa using this
      · have := hcc 2 (by omega); rw [Go.Deep.add_add] at this; simpa using this
      · have := hcc 3 (by omega); rw [Go.Deep.add_add] at this; simpa using this
      · have := hcc 4 (by omega); rw [Go.Deep.add_add] at this; simpa using this
    obtain ⟨Ts, hTs⟩ := Go.Deep.choose_lt hchild
    have hlen : ((List.range len).map Ts).length = len := by simp
    refine ⟨some a, cap, (List.range len).map Ts, by rw [hlen]; exact e3, by rw [hlen]; exact hlc, by rw [hlen]; exact s3, ⟨fun hp => ?_⟩⟩
    · rw [hlen] at hp
      obtain ⟨w0, w1, w2, w3, w4, ⟨c0, _⟩, _⟩ := hTs 0 hp
      obtain ⟨b, off, spot⟩ := a
      have hspot : spot = none := by simpa [Addr.add] using World.cell?_spot c0
      subst hspot
      refine ⟨b, off, rfl, ?_, fun i hil => ?_⟩
      · have := World.block_lt_of_cell? W _ c0
        simpa [Addr.add] using this
      · rw [hlen] at hil
        obtain ⟨u0, u1, u2, u3, u4, ⟨c0, c1, c2, c3, c4⟩, hT⟩ := hTs i hil
        have hit : ((List.range len).map Ts)[i]'(by rw [hlen]; exact hil) = Ts i := by simp
        rw [hit]
        rw [Go.WideShapes.add_plain] at c0 c1 c2 c3 c4
        refine ⟨u0, u1, u2, u3, u4, ⟨c0, ?_, ?_, ?_, ?_⟩, hT⟩
        · rw [Nat.add_assoc]; exact c1
        · rw [Nat.add_assoc]; exact c2
        · rw [Nat.add_assoc]; exact c3
        · rw [Nat.add_assoc]; exact c4
end
end Go.Proofs.YtapjfocjeligiaaGreatDoor
namespace Go.Proofs.YtapjfocjeligiaaGreatDoor
open Go.ChangeShapes Go.WideShapes Go.RowKit
set_option linter.unusedVariables false

theorem bulk_pos {H : Type} (d : DataW H) : 1 ≤ Rows.uptoBulk d := by
  cases d with
  | lit l => cases l <;> simp [Rows.uptoBulk]
  | _ => simp [Rows.uptoBulk]
theorem bulk_len {H : Type} : ∀ l : List (DataW H), l.length ≤ Rows.uptoBulkAll l
  | [] => Nat.zero_le _
  | a :: r => by
    simp only [Rows.uptoBulkAll, List.length_cons]
    have := bulk_len r
    have := bulk_pos a
    omega
theorem sumL_range_succ (f : Nat → Nat) (n : Nat) : sumL ((List.range (n + 1)).map f) = f 0 + sumL ((List.range n).map fun i => f (i + 1)) := by
  rw [List.range_succ_eq_map, List.map_cons, List.map_map]; rfl
theorem bulk_sum {H : Type} : ∀ (l : List (DataW H)) (f : Nat → Nat), (∀ i, (hi : i < l.length) → f i ≤ Rows.uptoBulk l[i]) → sumL ((List.range l.length).map f) ≤ Rows.uptoBulkAll l
  | [], f, _ => Nat.zero_le _
  | a :: r, f, hf => by
    rw [List.length_cons, sumL_range_succ]
    simp only [Rows.uptoBulkAll]
    have h0 : f 0 ≤ Rows.uptoBulk a := hf 0 (by simp)
    have hr := bulk_sum r (fun i => f (i + 1)) (fun i hi => hf (i + 1) (by simpa using hi))
    omega
theorem sumL_one (f : Nat → Nat) (n : Nat) : sumL ((List.range n).map fun i => f i + 1) = n + sumL ((List.range n).map f) := by
  induction n generalizing f with
  | zero => rfl
  | succ n ih =>
    rw [sumL_range_succ, sumL_range_succ]
    have := ih (fun i => f (i + 1))
    omega
theorem sumL_congr {α : Type} {f g : α → Nat} : ∀ (l : List α), (∀ t ∈ l, f t = g t) → sumL (l.map f) = sumL (l.map g)
  | [], _ => rfl
  | a :: r, h => by
    show f a + _ = g a + _
    rw [h a (List.mem_cons_self ..)]
    have := sumL_congr r (fun t ht => h t (List.mem_cons_of_mem _ ht))
    omega
theorem InH.szUp {W : World} : ∀ {n m : Nat} {T : VT} {v : Value}, InH W n T v → n ≤ m → szN m T = szN n T
  | 0, _, _, _, h, _ => h.elim
  | n + 1, 0, _, _, _, hm => by omega
  | n + 1, m + 1, T, v, hI, hm => by
    obtain ⟨io, icap, ko, kcap, e, a1, a2, a3, a4, a5, a6, a7, hk, hi⟩ := hI
    show 1 + T.keys.length + sumL (T.items.map (szN m)) = 1 + T.keys.length + sumL (T.items.map (szN n))
    congr 1
    refine sumL_congr _ fun t ht => ?_
    obtain ⟨i, hil, rfl⟩ := List.getElem_of_mem ht
    obtain ⟨b, off, e2, hl, hc⟩ := hi (by omega)
    obtain ⟨v0, v1, v2, v3, v4, _, hT⟩ := hc i hil
    exact hT.szUp (by omega)

theorem sumL_ge {f : VT → Nat} : ∀ (l : List VT), (∀ t ∈ l, 1 ≤ f t) → l.length ≤ sumL (l.map f)
  | [], _ => Nat.zero_le _
  | a :: r, h => by
    have h1 := h a (List.mem_cons_self ..)
    have h2 := sumL_ge r (fun t ht => h t (List.mem_cons_of_mem _ ht))
    show r.length + 1 ≤ f a + sumL (r.map f)
    omega
theorem InH.szPos {W : World} {n : Nat} {T : VT} {v : Value} (H : InH W n T v) : 1 ≤ szN n T := by
  cases n with
  | zero => exact H.elim
  | succ n => show 1 ≤ 1 + T.keys.length + sumL (T.items.map (szN n)); omega
theorem IIn.szB {W : World} {n m : Nat} {io : Option Addr} {ts : List VT} {B : Nat} (H : IIn W n io ts) (hm : n ≤ m) (hB : ts.length + sumL (ts.map (szN n)) ≤ B) : (∀ T ∈ ts, szN m T ≤ B) ∧ 2 * ts.length ≤ B := by
  have hin : ∀ T ∈ ts, ∃ v, InH W n T v := fun T hT => by
    obtain ⟨i, hi, rfl⟩ := List.getElem_of_mem hT
    obtain ⟨b, off, e, hl, hc⟩ := H.row (by omega)
    obtain ⟨v0, v1, v2, v3, v4, _, ht⟩ := hc i hi
    exact ⟨_, ht⟩
  refine ⟨fun T hT => ?_, ?_⟩
  · obtain ⟨v, hv⟩ := hin T hT
    rw [hv.szUp hm]
    have := sumL_mem (List.mem_map.2 ⟨T, hT, rfl⟩ : szN n T ∈ ts.map (szN n))
    omega
  · have := sumL_ge (f := szN n) ts (fun T hT => by obtain ⟨v, hv⟩ := hin T hT; exact hv.szPos)
    omega

section
variable {H : Type} {enc : TypeId × Value → H} {W : World}

set_option maxRecDepth 100000 in
theorem vt_openB : ∀ (fuel : Nat) (cs : List Value) (x : DataW H × List MemPlace), DataW.trod enc Tryz.prog W 0 (fun _ => true) true fuel 37 cs = some x → WtOk (x.1.weights Tryz.prog 37) →
    ∃ (T : VT) (v0 v1 v2 v3 v4 : Value), cs = [v0, v1, v2, v3, v4] ∧ InH W fuel T (.agg #[v0, v1, v2, v3, v4]) ∧ szN fuel T + 1 ≤ Rows.uptoBulk x.1 := by
  intro fuel
  induction fuel using Nat.strongRecOn with
  | ind fuel ih =>
  intro cs x h hw
  obtain ⟨xs, m, hfu, hx, hl, hn, hi⟩ := DataW.trod_struct Tryz.underlying37 h
  rw [g_cellsV] at hl
  have hn5 : xs.length = 5 := hn
  have h0 := hi 0 _ rfl
  have h1 := hi 1 _ rfl
  have h2 := hi 2 _ rfl
  have h3 := hi 3 _ rfl
  have h4 := hi 4 _ rfl
  match xs, hn5, cs, hl with
  | [y0, y1, y2, y3, y4], _, [v0, v1, v2, v3, v4], _ =>
    simp [g_cells3, g_cells9, g_cellsVs, g_cellsSs] at h0 h1 h2 h3 h4
    have hbk' : Rows.uptoBulk x.1 = Rows.uptoBulk y0.1 + (Rows.uptoBulk y1.1 + (Rows.uptoBulk y2.1 + (Rows.uptoBulk y3.1 + (Rows.uptoBulk y4.1 + 0)))) + 1 := by
      rw [hx]
      simp only [List.map_cons, List.map_nil, Rows.uptoBulk, Rows.uptoBulkAll]
    have q0 := bulk_pos y0.1
    have q1 := bulk_pos y1.1
    have q2 := bulk_pos y2.1
    have hw' : WtOk (y1.1.weights Tryz.prog 9 ++ (y2.1.weights Tryz.prog 9 ++ (y3.1.weights Tryz.prog 35 ++ y4.1.weights Tryz.prog 25))) := by
      intro y hy
      apply hw y
      rw [hx]
      simp only [DataW.weights, Tryz.underlying37, List.map_cons, List.map_nil, DataW.weightsEach, List.append_nil]
      exact List.mem_append.2 (.inr hy)
    obtain ⟨k, e0, _, _⟩ := DataW.trod_int Tryz.underlying3 h0
    obtain ⟨nm, e1, d1, _⟩ := DataW.trod_string Tryz.underlying9 h1
    obtain ⟨tx, e2, d2, _⟩ := DataW.trod_string Tryz.underlying9 h2
    obtain ⟨ko, kcap, keys, Dk, spk, e4, hkc, hkin, hkd⟩ := keys_open h4
    have e0' : v0 = .int .i64 k := by simpa using e0
    have e1' : v1 = .string nm := by simpa using e1
    have e2' : v2 = .string tx := by simpa using e2
    have e4' : v4 = .slice ko keys.length kcap := by simpa using e4
    have s1 : nm.size ≤ 140737488355328 := by
      have := hw' nm.data.toList.length (by rw [d1]; simp [DataW.weights])
      rw [Array.length_toList] at this
      exact this
    have s2 : tx.size ≤ 140737488355328 := by
      have := hw' tx.data.toList.length (by rw [d2]; simp [DataW.weights])
      rw [Array.length_toList] at this
      exact this
    have z4 : keys.length + 1 ≤ Rows.uptoBulk y4.1 := by
      rcases hkd with ⟨hd, rfl⟩ | ⟨hd, hdi⟩
      · rw [hd]; simp [Rows.uptoBulk]
      · rw [hd]
        simp only [Rows.uptoBulk]
        have := bulk_len ((List.range keys.length).map Dk)
        rw [List.length_map, List.length_range] at this
        omega
    have s4 : keys.length ≤ 140737488355328 ∧ ∀ k ∈ keys, k.size ≤ 140737488355328 := by
      rcases hkd with ⟨_, rfl⟩ | ⟨hd, hdi⟩
      · exact ⟨by simp, by simp⟩
      · have hb : Tryz.prog.bytesOf 9 = 16 := by kernel_rfl
        constructor
        · have := hw' ((keys.length + spk.length) * 16) (by rw [hd]; simp [DataW.weights, Tryz.underlying25, hb])
          omega
        · intro kk hk
          obtain ⟨i, hil, rfl⟩ := List.getElem_of_mem hk
          have hgd : keys.getD i ByteArray.empty = keys[i] := by simp [List.getD, hil]
          have := hw' keys[i].data.toList.length (by
            rw [hd]
            simp only [DataW.weights, Tryz.underlying25]
            refine List.mem_append.2 (.inr (List.mem_append.2 (.inr (List.mem_append.2 (.inr (List.mem_cons.2 (.inr (List.mem_append.2 (.inl ?_)))))))))
            refine mem_wAll (d := Dk i) (List.mem_map.2 ⟨i, List.mem_range.2 hil, rfl⟩) ?_
            rw [hdi i hil, hgd]; simp [DataW.weights])
          rw [Array.length_toList] at this
          exact this
    rcases elems_open Tryz.underlying35 h3 with ⟨e3, hd3⟩ | ⟨a, len, cap, n, elems, sp, hfn, e3, hlc, hel, hd, hcell⟩
    · have e3' : v3 = .slice none 0 0 := by simpa using e3
      subst e0' e1' e2' e3' e4'
      refine ⟨.mk k nm tx [] keys, _, _, _, _, _, rfl, ?_⟩
      rw [hfu]
      exact ⟨⟨none, 0, ko, kcap, rfl, s1, s2, by simp [VT.items], s4.1, by simp [VT.items], hkc, s4.2, hkin, fun h => by simp [VT.items] at h⟩, by
        have e : szN (m + 1) (.mk k nm tx [] keys) = 1 + keys.length := rfl
        have q3 := bulk_pos y3.1
        rw [e, hbk']; omega⟩
    · have e3' : v3 = .slice (some a) len cap := by simpa using e3
      have hbV : Tryz.prog.bytesOf 37 = 88 := by kernel_rfl
      have s3 : len ≤ 140737488355328 := by
        have := hw' ((elems.length + sp.length) * 88) (by rw [hd]; simp [DataW.weights, Tryz.underlying35, hbV])
        omega
      have hchild : ∀ i, i < len → ∃ T : VT, ∃ v0 v1 v2 v3 v4 : Value, (W.cell? (a.add (i * 5)) = some v0 ∧ W.cell? (a.add (i * 5 + 1)) = some v1 ∧ W.cell? (a.add (i * 5 + 2)) = some v2 ∧ W.cell? (a.add (i * 5 + 3)) = some v3 ∧ W.cell? (a.add (i * 5 + 4)) = some v4) ∧ InH W m T (.agg #[v0, v1, v2, v3, v4]) ∧ ∀ hi : i < elems.length, szN m T + 1 ≤ Rows.uptoBulk elems[i] := by
        intro i hil
        obtain ⟨cs', ps, hc1, hc2⟩ := hcell i (by omega)
        rw [g_cellsV] at hc1
        obtain ⟨T, u0, u1, u2, u3, u4, rfl, hT, hTs⟩ := ih n (by omega) cs' _ hc2 (by
          intro y hy
          apply hw' y
          rw [hd]
          simp only [DataW.weights, Tryz.underlying35]
          refine List.mem_append.2 (.inr (List.mem_append.2 (.inr (List.mem_append.2 (.inl (List.mem_cons.2 (.inr (List.mem_append.2 (.inl ?_)))))))))
          exact mem_wAll (List.getElem_mem (by omega)) hy)
        obtain ⟨_, _, hcc⟩ := World.cells?_some hc1
        refine ⟨T, u0, u1, u2, u3, u4, ⟨?_, ?_, ?_, ?_, ?_⟩, hT.le (by omega), fun _ => by rw [hT.szUp (show n ≤ m by omega)]; exact hTs⟩
        · have := hcc 0 (by omega); rw [Go.Deep.add_add] at this; simpa using this
        · have := hcc 1 (by omega); rw [Go.Deep.add_add] at this; simpa using this
        · have := hcc 2 (by omega); rw [Go.Deep.add_add] at this; simpa using this
        · have := hcc 3 (by omega); rw [Go.Deep.add_add] at this; simpa using this
        · have := hcc 4 (by omega); rw [Go.Deep.add_add] at this; simpa using this
      obtain ⟨Ts, hTs⟩ := Go.Deep.choose_lt hchild
      subst e0' e1' e2' e3' e4'
      refine ⟨.mk k nm tx ((List.range len).map Ts) keys, _, _, _, _, _, rfl, ?_⟩
      rw [hfu]
      have hitl : (VT.mk k nm tx ((List.range len).map Ts) keys).items.length = len := by simp [VT.items]
      refine ⟨⟨some a, cap, ko, kcap, by rw [hitl]; rfl, s1, s2, by rw [hitl]; exact s3, s4.1, by rw [hitl]; exact hlc, hkc, s4.2, hkin, fun hp => ?_⟩, by
        have e : szN (m + 1) (.mk k nm tx ((List.range len).map Ts) keys) = 1 + keys.length + sumL (((List.range len).map Ts).map (szN m)) := rfl
        have hsum := bulk_sum elems (fun i => szN m (Ts i)) (fun i hi => by
          obtain ⟨_, _, _, _, _, _, _, hh⟩ := hTs i (by omega)
          have := hh hi; omega)
        rw [hel] at hsum
        have h3b : Rows.uptoBulkAll elems + 1 ≤ Rows.uptoBulk y3.1 := by
          rw [hd]; simp only [Rows.uptoBulk]; omega
        rw [e, List.map_map, hbk']
        have e2 : sumL ((List.range len).map (szN m ∘ Ts)) = sumL ((List.range len).map fun i => szN m (Ts i)) := rfl
        rw [e2]
        omega⟩
      rw [hitl] at hp
      obtain ⟨w0, w1, w2, w3, w4, ⟨c0, _⟩, _⟩ := hTs 0 hp
      obtain ⟨b, off, spot⟩ := a
      have hspot : spot = none := by simpa [Addr.add] using World.cell?_spot c0
      subst hspot
      refine ⟨b, off, rfl, ?_, fun i hil => ?_⟩
      · have := World.block_lt_of_cell? W _ c0
        simpa [Addr.add] using this
      · rw [hitl] at hil
        obtain ⟨u0, u1, u2, u3, u4, ⟨c0, c1, c2, c3, c4⟩, hT, _⟩ := hTs i hil
        have hit : (VT.mk k nm tx ((List.range len).map Ts) keys).items[i]'(by rw [hitl]; exact hil) = Ts i := by simp [VT.items]
        rw [hit]
        rw [Go.WideShapes.add_plain] at c0 c1 c2 c3 c4
        refine ⟨u0, u1, u2, u3, u4, ⟨c0, ?_, ?_, ?_, ?_⟩, hT⟩
        · rw [Nat.add_assoc]; exact c1
        · rw [Nat.add_assoc]; exact c2
        · rw [Nat.add_assoc]; exact c3
        · rw [Nat.add_assoc]; exact c4

set_option maxRecDepth 100000 in
theorem vs_openB (fuel : Nat) (cs : List Value) (x : DataW H × List MemPlace) (h : DataW.trod enc Tryz.prog W 0 (fun _ => true) true fuel 35 cs = some x) (hw : WtOk (x.1.weights Tryz.prog 35)) :
    ∃ (io : Option Addr) (icap : Nat) (ts : List VT), cs = [.slice io ts.length icap] ∧ ts.length ≤ icap ∧ ts.length ≤ 140737488355328 ∧ IIn W fuel io ts ∧ ts.length + sumL (ts.map (szN fuel)) ≤ Rows.uptoBulk x.1 ∧ (io = none → icap = 0) := by
  rcases elems_open Tryz.underlying35 h with ⟨e3, _⟩ | ⟨a, len, cap, n, elems, sp, hfn, e3, hlc, hel, hd, hcell⟩
  · exact ⟨none, 0, [], e3, Nat.le_refl _, Nat.zero_le _, ⟨fun h => by cases h⟩, Nat.zero_le _, fun _ => rfl⟩
  · have hbV : Tryz.prog.bytesOf 37 = 88 := by kernel_rfl
    have s3 : len ≤ 140737488355328 := by
      have := hw ((elems.length + sp.length) * 88) (by rw [hd]; simp [DataW.weights, Tryz.underlying35, hbV])
      omega
    have hchild : ∀ i, i < len → ∃ T : VT, ∃ v0 v1 v2 v3 v4 : Value, (W.cell? (a.add (i * 5)) = some v0 ∧ W.cell? (a.add (i * 5 + 1)) = some v1 ∧ W.cell? (a.add (i * 5 + 2)) = some v2 ∧ W.cell? (a.add (i * 5 + 3)) = some v3 ∧ W.cell? (a.add (i * 5 + 4)) = some v4) ∧ InH W fuel T (.agg #[v0, v1, v2, v3, v4]) ∧ ∀ hi : i < elems.length, szN fuel T + 1 ≤ Rows.uptoBulk elems[i] := by
      intro i hil
      obtain ⟨cs', ps, hc1, hc2⟩ := hcell i (by omega)
      rw [g_cellsV] at hc1
      obtain ⟨T, u0, u1, u2, u3, u4, rfl, hT, hTs⟩ := vt_openB n cs' _ hc2 (by
        intro y hy
        apply hw y
        rw [hd]
        simp only [DataW.weights, Tryz.underlying35]
        refine List.mem_cons.2 (.inr (List.mem_append.2 (.inl ?_)))
        exact mem_wAll (List.getElem_mem (by omega)) hy)
      obtain ⟨_, _, hcc⟩ := World.cells?_some hc1
      refine ⟨T, u0, u1, u2, u3, u4, ⟨?_, ?_, ?_, ?_, ?_⟩, hT.le (by omega), fun _ => by rw [hT.szUp (show n ≤ fuel by omega)]; exact hTs⟩
      · have := hcc 0 (by omega); rw [Go.Deep.add_add] at this; simpa using this
      · have := hcc 1 (by omega); rw [Go.Deep.add_add] at this; simpa using this
      · have := hcc 2 (by omega); rw [Go.Deep.add_add] at this; simpa using this
      · have := hcc 3 (by omega); rw [Go.Deep.add_add] at this; simpa using this
      · have := hcc 4 (by omega); rw [Go.Deep.add_add] at this; simpa using this
    obtain ⟨Ts, hTs⟩ := Go.Deep.choose_lt hchild
    have hlen : ((List.range len).map Ts).length = len := by simp
    refine ⟨some a, cap, (List.range len).map Ts, by rw [hlen]; exact e3, by rw [hlen]; exact hlc, by rw [hlen]; exact s3, ⟨fun hp => ?_⟩, ?_, fun e => by cases e⟩
    · rw [hlen] at hp
      obtain ⟨w0, w1, w2, w3, w4, ⟨c0, _⟩, _⟩ := hTs 0 hp
      obtain ⟨b, off, spot⟩ := a
      have hspot : spot = none := by simpa [Addr.add] using World.cell?_spot c0
      subst hspot
      refine ⟨b, off, rfl, ?_, fun i hil => ?_⟩
      · have := World.block_lt_of_cell? W _ c0
        simpa [Addr.add] using this
      · rw [hlen] at hil
        obtain ⟨u0, u1, u2, u3, u4, ⟨c0, c1, c2, c3, c4⟩, hT, _⟩ := hTs i hil
        have hit : ((List.range len).map Ts)[i]'(by rw [hlen]; exact hil) = Ts i := by simp
        rw [hit]
        rw [Go.WideShapes.add_plain] at c0 c1 c2 c3 c4
        refine ⟨u0, u1, u2, u3, u4, ⟨c0, ?_, ?_, ?_, ?_⟩, hT⟩
        · rw [Nat.add_assoc]; exact c1
        · rw [Nat.add_assoc]; exact c2
        · rw [Nat.add_assoc]; exact c3
        · rw [Nat.add_assoc]; exact c4
    · rw [hlen, List.map_map]
      have hsum := bulk_sum elems (fun i => szN fuel (Ts i) + 1) (fun i hi => by
        obtain ⟨_, _, _, _, _, _, _, hh⟩ := hTs i (by omega)
        exact hh hi)
      rw [hel] at hsum
      have e2 : sumL ((List.range len).map fun i => szN fuel (Ts i) + 1) = len + sumL ((List.range len).map (szN fuel ∘ Ts)) := sumL_one _ len
      rw [hd]
      simp only [Rows.uptoBulk]
      omega
end
end Go.Proofs.YtapjfocjeligiaaGreatDoor
