import Derived.Test.YtaflpeajapdkdaaM7
import Derived.Laws.OwnMore
namespace Go.Proofs.Ytaflpeajapdkdaa
open Go.RowKit
set_option linter.unusedVariables false
set_option linter.unusedSimpArgs false

/-- the tree stands in memory from lo on -/
def InF (lo : Nat) (W : World) : Nat → VT → Value → Prop
  | 0, _, _ => False
  | h + 1, T, v => ∃ (io : Option Addr) (icap : Nat) (ko : Option Addr) (kcap : Nat),
      v = .agg #[.int .i64 T.kind, .string T.num, .string T.text, .slice io T.items.length icap, .slice ko T.keys.length kcap] ∧
      T.num.size ≤ 140737488355328 ∧ T.text.size ≤ 140737488355328 ∧ T.items.length ≤ 140737488355328 ∧ T.keys.length ≤ 140737488355328 ∧ T.items.length ≤ icap ∧ T.keys.length ≤ kcap ∧
      (∀ k ∈ T.keys, k.size ≤ 140737488355328) ∧
      (0 < T.keys.length → ∃ b off, ko = some ⟨b, off, none⟩ ∧ lo ≤ b ∧ b < W.heap.size ∧ ∀ i, i < T.keys.length → W.cell? ⟨b, off + i, none⟩ = some (.string (T.keys.getD i .empty))) ∧
      (0 < T.items.length → ∃ b off, io = some ⟨b, off, none⟩ ∧ lo ≤ b ∧ b < W.heap.size ∧ ∀ i, (hi : i < T.items.length) → ∃ v0 v1 v2 v3 v4 : Value,
        (W.cell? ⟨b, off + i * 5, none⟩ = some v0 ∧ W.cell? ⟨b, off + i * 5 + 1, none⟩ = some v1 ∧ W.cell? ⟨b, off + i * 5 + 2, none⟩ = some v2 ∧ W.cell? ⟨b, off + i * 5 + 3, none⟩ = some v3 ∧ W.cell? ⟨b, off + i * 5 + 4, none⟩ = some v4) ∧ InF lo W h T.items[i] (.agg #[v0, v1, v2, v3, v4]))
theorem InF.toH {lo : Nat} {W : World} : ∀ {h : Nat} {T : VT} {v : Value}, InF lo W h T v → InH W h T v
  | 0, _, _, h => h
  | h + 1, T, v, hI => by
    obtain ⟨io, icap, ko, kcap, e, a1, a2, a3, a4, a5, a6, a7, hk, hi⟩ := hI
    refine ⟨io, icap, ko, kcap, e, a1, a2, a3, a4, a5, a6, a7, ⟨fun h0 => ?_⟩, fun h0 => ?_⟩
    · obtain ⟨b, off, e2, _, hl, hc⟩ := hk h0
      exact ⟨b, off, e2, hl, hc⟩
    · obtain ⟨b, off, e2, _, hl, hc⟩ := hi h0
      refine ⟨b, off, e2, hl, fun i hil => ?_⟩
      obtain ⟨v0, v1, v2, v3, v4, c, ht⟩ := hc i hil
      exact ⟨v0, v1, v2, v3, v4, c, InF.toH ht⟩
theorem InF.keepB {lo lo' : Nat} {W W' : World} (hz : W.heap.size ≤ W'.heap.size) (hs : ∀ b, lo ≤ b → b < W.heap.size → W'.heap[b]? = W.heap[b]?) (hlo : lo' ≤ lo) : ∀ {h : Nat} {T : VT} {v : Value}, InF lo W h T v → InF lo' W' h T v
  | 0, _, _, h => h
  | h + 1, T, v, hI => by
    obtain ⟨io, icap, ko, kcap, e, a1, a2, a3, a4, a5, a6, a7, hk, hi⟩ := hI
    have cc : ∀ b o u, lo ≤ b → b < W.heap.size → W.cell? ⟨b, o, none⟩ = some u → W'.cell? ⟨b, o, none⟩ = some u := fun b o u h1 h2 h3 => (World.cell?_of_block (a := ⟨b, o, none⟩) (hs b h1 h2)).trans h3
    refine ⟨io, icap, ko, kcap, e, a1, a2, a3, a4, a5, a6, a7, fun h0 => ?_, fun h0 => ?_⟩
    · obtain ⟨b, off, e2, hb, hl, hc⟩ := hk h0
      exact ⟨b, off, e2, Nat.le_trans hlo hb, Nat.lt_of_lt_of_le hl hz, fun i hi => cc _ _ _ hb hl (hc i hi)⟩
    · obtain ⟨b, off, e2, hb, hl, hc⟩ := hi h0
      refine ⟨b, off, e2, Nat.le_trans hlo hb, Nat.lt_of_lt_of_le hl hz, fun i hil => ?_⟩
      obtain ⟨v0, v1, v2, v3, v4, ⟨c0, c1, c2, c3, c4⟩, ht⟩ := hc i hil
      exact ⟨v0, v1, v2, v3, v4, ⟨cc _ _ _ hb hl c0, cc _ _ _ hb hl c1, cc _ _ _ hb hl c2, cc _ _ _ hb hl c3, cc _ _ _ hb hl c4⟩, InF.keepB hz hs hlo ht⟩
theorem InF.low {lo : Nat} {W W' : World} {h : Nat} {T : VT} {v : Value} (hI : InF lo W h T v) (hb : Below W.heap.size W W') : InF lo W' h T v := InF.keepB hb.size (fun b _ hl => hb.block b hl) (Nat.le_refl _) hI

/-- cells laid one behind the other, five by five -/
def flat (c : Nat → Fin 5 → Value) (k : Nat) : List Value := (List.range k).flatMap fun i => [c i 0, c i 1, c i 2, c i 3, c i 4]
theorem flat_up (c : Nat → Fin 5 → Value) (k : Nat) : flat c (k + 1) = flat c k ++ [c k 0, c k 1, c k 2, c k 3, c k 4] := by unfold flat; rw [List.range_succ, List.flatMap_append]; simp
theorem flat_len (c : Nat → Fin 5 → Value) (k : Nat) : (flat c k).length = k * 5 := by
  induction k with
  | zero => rfl
  | succ k ih => rw [flat_up, List.length_append, ih]; simp; omega
theorem flat_eq {c d : Nat → Fin 5 → Value} {k : Nat} (h : ∀ i, i < k → c i = d i) : flat c k = flat d k := by
  induction k with
  | zero => rfl
  | succ k ih => rw [flat_up, flat_up, ih (fun i hi => h i (by omega)), h k (by omega)]
theorem flat_get (c : Nat → Fin 5 → Value) : ∀ (k i : Nat) (j : Fin 5), i < k → (flat c k)[i * 5 + j.1]? = some (c i j)
  | 0, _, _, h => by omega
  | k + 1, i, j, h => by
    have hj := j.2
    rw [flat_up]
    by_cases hi : i < k
    · rw [List.getElem?_append_left (by rw [flat_len]; omega)]
      exact flat_get c k i j hi
    · have e : i = k := by omega
      subst e
      rw [List.getElem?_append_right (by rw [flat_len]; omega), flat_len, show i * 5 + j.1 - i * 5 = j.1 from by omega]
      match j with
      | 0 => rfl
      | 1 => rfl
      | 2 => rfl
      | 3 => rfl
      | 4 => rfl
theorem own_cellAt {w : World} {base : Nat} {e : TypeId} {size g n cap : Nat} {xs : List Value} (h : w.ownsRow base e size (.slice (some ⟨g, 0, none⟩) n cap) n xs) {j : Nat} (hj : j < n * size) : w.cell? ⟨g, j, none⟩ = xs[j]? := by
  rcases h.2 with ⟨h1, _⟩ | ⟨g', cap', cur, h1, _, hb, _, _, _, hx⟩
  · cases h1
  · simp only [Value.slice.injEq, Option.some.injEq, Addr.mk.injEq] at h1
    obtain ⟨⟨rfl, _, _⟩, _, _⟩ := h1
    rw [cell_of_row _ _ _ _ _ _ hb, ← hx, List.getElem?_take_of_lt hj, Array.getElem?_toList]

end Go.Proofs.Ytaflpeajapdkdaa
