import Derived.Test.YtkaaleeldpghoaaGreatZTYc
import Derived.Deep.Slices
namespace Go.Proofs.YtkaaleeldpghoaaGreat
open Go.RowKit Go.Shelf
set_option linter.unusedVariables false
set_option linter.unusedSimpArgs false
attribute [local go_sem] Oper.semAt_some

/-- the types that lie in one -/
def insT (T : TT) : List TT := T.arrs.map AR.item ++ T.objs.flatMap fun o => o.fields ++ [o.rest]
theorem parts_open {w : World} {h : Nat} {T : TT} {no : Option Addr} {nn nc : Nat} {xo : Option Addr} {nx xc : Nat} {ao : Option Addr} {NA ac : Nat} {oo : Option Addr} {NO oc : Nat} {b0 b1 b2 b3 b5 : Bool}
    (hI : InT w (h + 1) T (.agg #[.bool b0, .bool b1, .bool b2, .bool b3, .slice no nn nc, .bool b5, .slice xo nx xc, .slice ao NA ac, .slice oo NO oc])) :
    ∃ (az : List (TT × Value)) (os : List (List (TT × Value) × (TT × Value))), az.length = NA ∧ os.length = NO ∧ NA ≤ ac ∧ NO ≤ oc ∧ NA ≤ 140737488355328 ∧ NO ≤ 140737488355328 ∧ (partsT az os).map (·.1) = insT T ∧ (∀ x ∈ partsT az os, InT w h x.1 x.2) ∧
      ∀ (W : World) (B : Nat), Below w.heap.size w W → W.cell? ⟨B, 7, none⟩ = some (.slice ao NA ac) → W.cell? ⟨B, 8, none⟩ = some (.slice oo NO oc) → InTS W w.heap.size B ao ac oo oc az os := by
  obtain ⟨no', nc', xo', xc', ao', ac', oo', oc', e, ⟨_, _, a3, a4⟩, ⟨_, _, a7, a8⟩, _, _, _, _, ha, ho⟩ := hI
  simp only [Value.agg.injEq, Array.mk.injEq, List.cons.injEq, Value.bool.injEq, Value.slice.injEq, and_true] at e
  obtain ⟨rfl, rfl, rfl, rfl, _, rfl, _, ⟨rfl, rfl, rfl⟩, rfl, rfl, rfl⟩ := e
  have keyA : ∀ i, i < T.arrs.length → ∃ v : Value, ∃ hi : i < T.arrs.length, InT w h T.arrs[i].item v ∧ ∃ b off mn mx, ao = some ⟨b, off, none⟩ ∧ b < w.heap.size ∧ NineAt w b (off + i * 11) v ∧ w.cell? ⟨b, off + i * 11 + 9, none⟩ = some (.int .i64 mn) ∧ w.cell? ⟨b, off + i * 11 + 10, none⟩ = some (.int .i64 mx) := by
    intro i hi
    obtain ⟨b, off, e2, hl, hc⟩ := ha (by omega)
    obtain ⟨c0, c1, c2, c3, c4, c5, c6, c7, c8, h1, h2, h3, h4⟩ := hc i hi
    exact ⟨_, hi, h4, b, off, _, _, e2, hl, ⟨c0, c1, c2, c3, c4, c5, c6, c7, c8, rfl, h1⟩, h2, h3⟩
  have keyO : ∀ k, k < T.objs.length → ∃ p : Value × (Nat → Value), ∃ hk : k < T.objs.length, InT w h T.objs[k].rest p.1 ∧ (∀ j, (hj : j < T.objs[k].fields.length) → InT w h T.objs[k].fields[j] (p.2 j)) ∧
      ∃ b off ko nK kc fo fc mo nM mc, oo = some ⟨b, off, none⟩ ∧ b < w.heap.size ∧ (w.cell? ⟨b, off + k * 12, none⟩ = some (.slice ko nK kc) ∧ w.cell? ⟨b, off + k * 12 + 1, none⟩ = some (.slice fo T.objs[k].fields.length fc) ∧ w.cell? ⟨b, off + k * 12 + 2, none⟩ = some (.slice mo nM mc)) ∧ NineAt w b (off + k * 12 + 3) p.1 ∧ T.objs[k].fields.length ≤ fc ∧ T.objs[k].fields.length ≤ 140737488355328 ∧
        ∀ j, j < T.objs[k].fields.length → ∃ b2 off2, fo = some ⟨b2, off2, none⟩ ∧ b2 < w.heap.size ∧ NineAt w b2 (off2 + j * 9) (p.2 j) := by
    intro k hk
    obtain ⟨b, off, e2, hl, hc⟩ := ho (by omega)
    obtain ⟨ko, kc, fo, fc, mo, mc, c0, c1, c2, c3, c4, c5, c6, c7, c8, g, h1, ⟨_, h2, _⟩, ⟨_, h3, _, _⟩, h4, h5, h6, h7⟩ := hc k hk
    have keyF : ∀ j, j < T.objs[k].fields.length → ∃ v : Value, ∃ hj : j < T.objs[k].fields.length, InT w h T.objs[k].fields[j] v ∧ ∃ b2 off2, fo = some ⟨b2, off2, none⟩ ∧ b2 < w.heap.size ∧ NineAt w b2 (off2 + j * 9) v := by
      intro j hj
      obtain ⟨b2, off2, e3, hl2, hd⟩ := h6 (by omega)
      obtain ⟨d0, d1, d2, d3, d4, d5, d6, d7, d8, k1, k2⟩ := hd j hj
      exact ⟨_, hj, k2, b2, off2, e3, hl2, d0, d1, d2, d3, d4, d5, d6, d7, d8, rfl, k1⟩
    haveI : Inhabited Value := ⟨undef⟩
    obtain ⟨F, hF⟩ := Go.Deep.choose_lt keyF
    exact ⟨(_, F), hk, h7, fun j hj => (hF j hj).2.1, b, off, ko, _, kc, fo, fc, mo, _, mc, e2, hl, g, ⟨c0, c1, c2, c3, c4, c5, c6, c7, c8, rfl, h1⟩, h2, h3, fun j hj => (hF j hj).2.2⟩
  haveI : Inhabited Value := ⟨undef⟩
  obtain ⟨cA, hcA⟩ := Go.Deep.choose_lt keyA
  haveI : Inhabited (Value × (Nat → Value)) := ⟨(undef, fun _ => undef)⟩
  obtain ⟨cO, hcO⟩ := Go.Deep.choose_lt keyO
  obtain ⟨az, haz⟩ : ∃ az : List (TT × Value), az = List.ofFn fun i : Fin T.arrs.length => (T.arrs[i].item, cA i) := ⟨_, rfl⟩
  obtain ⟨os, hos⟩ : ∃ os : List (List (TT × Value) × (TT × Value)), os = List.ofFn fun k : Fin T.objs.length => (List.ofFn (fun j : Fin T.objs[k].fields.length => (T.objs[k].fields[j], (cO k).2 j)), (T.objs[k].rest, (cO k).1)) := ⟨_, rfl⟩
  have lA : az.length = T.arrs.length := by rw [haz, List.length_ofFn]
  have lO : os.length = T.objs.length := by rw [hos, List.length_ofFn]
  have gA : ∀ i, (hi : i < az.length) → (hi2 : i < T.arrs.length) → az[i] = (T.arrs[i].item, cA i) := fun i hi hi2 => by subst haz; simp
  have gO : ∀ k, (hk : k < os.length) → (hk2 : k < T.objs.length) → os[k] = (List.ofFn (fun j : Fin T.objs[k].fields.length => (T.objs[k].fields[j], (cO k).2 j)), (T.objs[k].rest, (cO k).1)) := fun k hk hk2 => by subst hos; simp
  refine ⟨az, os, lA, lO, a3, a4, a7, a8, ?_, ?_, ?_⟩
  · unfold partsT insT
    rw [List.map_append, List.map_flatMap]
    congr 1
    · apply List.ext_getElem
      · rw [List.length_map, List.length_map, lA]
      · intro i h1 h2
        rw [List.length_map] at h1 h2
        rw [List.getElem_map, List.getElem_map, gA i h1 h2]
    · have key : os.map (fun o => (o.1 ++ [o.2]).map (·.1)) = T.objs.map fun o => o.fields ++ [o.rest] := by
        apply List.ext_getElem
        · rw [List.length_map, List.length_map, lO]
        · intro k h1 h2
          rw [List.length_map] at h1 h2
          rw [List.getElem_map, List.getElem_map, gO k h1 h2, List.map_append]
          congr 1
          apply List.ext_getElem
          · simp
          · intro j h3 h4
            simp
      rw [List.flatMap_def, List.flatMap_def, key]
  · intro x hx
    rcases List.mem_append.1 hx with hx | hx
    · obtain ⟨i, hi, rfl⟩ := List.getElem_of_mem hx
      rw [gA i hi (by omega)]
      exact (hcA i (by omega)).2.1
    · obtain ⟨p, hp, hx⟩ := List.mem_flatMap.1 hx
      obtain ⟨k, hk, rfl⟩ := List.getElem_of_mem hp
      rw [gO k hk (by omega)] at hx
      rcases List.mem_append.1 hx with hx | hx
      · obtain ⟨j, rfl⟩ := List.mem_ofFn.1 hx
        exact (hcO k (by omega)).2.2.1 j.1 j.2
      · obtain rfl := List.mem_singleton.1 hx
        exact (hcO k (by omega)).2.1
  · intro W B hb c7 c8
    refine ⟨by rw [lA]; exact c7, by rw [lO]; exact c8, fun i hi => ?_, fun k hk => ?_⟩
    · rw [gA i hi (by omega)]
      obtain ⟨b, off, mn, mx, e2, hl, x, y, z⟩ := (hcA i (by omega)).2.2
      exact ⟨b, off, mn, mx, e2, hl, x.keep hb hl, (hb.cell (p := ⟨_, _, _⟩) hl).trans y, (hb.cell (p := ⟨_, _, _⟩) hl).trans z⟩
    · obtain ⟨b, off, ko, nK, kc, fo, fc, mo, nM, mc, e2, hl, ⟨x, y, z⟩, r, l1, l2, hf⟩ := (hcO k (by omega)).2.2.2
      have hlen : os[k].1.length = T.objs[k].fields.length := by rw [gO k hk (by omega), List.length_ofFn]
      refine ⟨b, off, ko, nK, kc, fo, fc, mo, nM, mc, e2, hl, ⟨(hb.cell (p := ⟨_, _, _⟩) hl).trans x, by rw [hlen]; exact (hb.cell (p := ⟨_, _, _⟩) hl).trans y, (hb.cell (p := ⟨_, _, _⟩) hl).trans z⟩, ?_, by rw [hlen]; exact l1, by rw [hlen]; exact l2, fun j hj => ?_⟩
      · rw [gO k hk (by omega)]; exact r.keep hb hl
      · obtain ⟨b2, off2, e3, hl2, x2⟩ := hf j (by omega)
        have he : os[k].1[j].2 = (cO k).2 j := by
          have := gO k hk (by omega)
          simp only [this, List.getElem_ofFn]
        exact ⟨b2, off2, e3, hl2, by rw [he]; exact x2.keep hb hl2⟩

/-- a part's own box -/
structure IB9 (W : World) (Bx : Nat) (v : Value) : Prop where
  row : ∃ a, v = .agg a ∧ W.heap[Bx]? = some (.cells a 27 (0, 0))
theorem ib9_own (m : Nat) (Bx : Nat) (v : Value) : OwnFrom m (fun (_ : Unit) W => IB9 W Bx v) := by
  intro _ A B row h hg hr
  obtain ⟨a, e, hrow⟩ := h.row
  refine ⟨a, e, ?_⟩
  rw [hg.block Bx (Array.getElem?_eq_some_iff.1 hrow).1 ?_]
  · exact hrow
  · intro e
    obtain ⟨_, o, ho, hc⟩ := hr Bx e.symm
    rw [hrow] at ho
    cases ho
    simp [Obj.isCells] at hc
theorem tkeepsFrom {m : Nat} {W W' : World} (h : Below W.heap.size W W') : KeepsFrom m W W' := ⟨h.size, fun k o _ hk _ => (h.block k (Array.getElem?_eq_some_iff.1 hk).1).trans hk⟩
theorem tboxed_low {W W' : World} {B : Nat} {t : TypeId} {v : Value} (h : Boxed W B t v) (hb : Below W.heap.size W W') : Boxed W' B t v := (hb.block B h.lt).trans h
end Go.Proofs.YtkaaleeldpghoaaGreat
