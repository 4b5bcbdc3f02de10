import Derived.Test.YtaflpeajapdkdaaM23
namespace Go.Proofs.Ytaflpeajapdkdaa
open Go.RowKit Go.Shelf
set_option linter.unusedVariables false
set_option linter.unusedSimpArgs false
attribute [local go_sem] Oper.semAt_some

/-- the tree stands in memory, in such blocks -/
def InD (D : Nat → Prop) (W : World) : Nat → VT → Value → Prop
  | 0, _, _ => False
  | h + 1, T, v => ∃ (io : Option Addr) (icap : Nat) (ko : Option Addr) (kcap : Nat),
      v = .agg #[.int .i64 T.kind, .string T.num, .string T.text, .slice io T.items.length icap, .slice ko T.keys.length kcap] ∧
      T.num.size ≤ 140737488355328 ∧ T.text.size ≤ 140737488355328 ∧ T.items.length ≤ 140737488355328 ∧ T.keys.length ≤ 140737488355328 ∧ T.items.length ≤ icap ∧ T.keys.length ≤ kcap ∧
      (∀ k ∈ T.keys, k.size ≤ 140737488355328) ∧
      (0 < T.keys.length → ∃ b off, ko = some ⟨b, off, none⟩ ∧ D b ∧ b < W.heap.size ∧ ∀ i, i < T.keys.length → W.cell? ⟨b, off + i, none⟩ = some (.string (T.keys.getD i .empty))) ∧
      (0 < T.items.length → ∃ b off, io = some ⟨b, off, none⟩ ∧ D b ∧ b < W.heap.size ∧ ∀ i, (hi : i < T.items.length) → ∃ v0 v1 v2 v3 v4 : Value,
        (W.cell? ⟨b, off + i * 5, none⟩ = some v0 ∧ W.cell? ⟨b, off + i * 5 + 1, none⟩ = some v1 ∧ W.cell? ⟨b, off + i * 5 + 2, none⟩ = some v2 ∧ W.cell? ⟨b, off + i * 5 + 3, none⟩ = some v3 ∧ W.cell? ⟨b, off + i * 5 + 4, none⟩ = some v4) ∧ InD D W h T.items[i] (.agg #[v0, v1, v2, v3, v4]))
theorem InD.iff {lo : Nat} {W : World} : ∀ {h : Nat} {T : VT} {v : Value}, InD (fun b => lo ≤ b) W h T v ↔ InF lo W h T v
  | 0, _, _ => Iff.rfl
  | h + 1, T, v => by
    constructor
    · rintro ⟨io, icap, ko, kcap, e, a1, a2, a3, a4, a5, a6, a7, hk, hi⟩
      refine ⟨io, icap, ko, kcap, e, a1, a2, a3, a4, a5, a6, a7, hk, fun h0 => ?_⟩
      obtain ⟨b, off, e2, hb, hl, hc⟩ := hi h0
      refine ⟨b, off, e2, hb, hl, fun i hil => ?_⟩
      obtain ⟨v0, v1, v2, v3, v4, c, ht⟩ := hc i hil
      exact ⟨v0, v1, v2, v3, v4, c, InD.iff.1 ht⟩
    · rintro ⟨io, icap, ko, kcap, e, a1, a2, a3, a4, a5, a6, a7, hk, hi⟩
      refine ⟨io, icap, ko, kcap, e, a1, a2, a3, a4, a5, a6, a7, hk, fun h0 => ?_⟩
      obtain ⟨b, off, e2, hb, hl, hc⟩ := hi h0
      refine ⟨b, off, e2, hb, hl, fun i hil => ?_⟩
      obtain ⟨v0, v1, v2, v3, v4, c, ht⟩ := hc i hil
      exact ⟨v0, v1, v2, v3, v4, c, InD.iff.2 ht⟩
theorem InD.keep {D D' : Nat → Prop} {W W' : World} (hz : W.heap.size ≤ W'.heap.size) (hs : ∀ b, D b → b < W.heap.size → W'.heap[b]? = W.heap[b]?) (hlo : ∀ b, D b → b < W.heap.size → D' b) : ∀ {h : Nat} {T : VT} {v : Value}, InD D W h T v → InD D' W' h T v
  | 0, _, _, h => h
  | h + 1, T, v, hI => by
    obtain ⟨io, icap, ko, kcap, e, a1, a2, a3, a4, a5, a6, a7, hk, hi⟩ := hI
    have cc : ∀ b o u, D b → b < W.heap.size → W.cell? ⟨b, o, none⟩ = some u → W'.cell? ⟨b, o, none⟩ = some u := fun b o u h1 h2 h3 => (World.cell?_of_block (a := ⟨b, o, none⟩) (hs b h1 h2)).trans h3
    refine ⟨io, icap, ko, kcap, e, a1, a2, a3, a4, a5, a6, a7, fun h0 => ?_, fun h0 => ?_⟩
    · obtain ⟨b, off, e2, hb, hl, hc⟩ := hk h0
      exact ⟨b, off, e2, hlo b hb hl, Nat.lt_of_lt_of_le hl hz, fun i hi => cc _ _ _ hb hl (hc i hi)⟩
    · obtain ⟨b, off, e2, hb, hl, hc⟩ := hi h0
      refine ⟨b, off, e2, hlo b hb hl, Nat.lt_of_lt_of_le hl hz, fun i hil => ?_⟩
      obtain ⟨v0, v1, v2, v3, v4, ⟨c0, c1, c2, c3, c4⟩, ht⟩ := hc i hil
      exact ⟨v0, v1, v2, v3, v4, ⟨cc _ _ _ hb hl c0, cc _ _ _ hb hl c1, cc _ _ _ hb hl c2, cc _ _ _ hb hl c3, cc _ _ _ hb hl c4⟩, InD.keep hz hs hlo ht⟩
theorem InD.shape {D : Nat → Prop} {W : World} {h : Nat} {T : VT} {v : Value} (hI : InD D W (h + 1) T v) : ∃ io icap ko kcap, v = .agg #[.int .i64 T.kind, .string T.num, .string T.text, .slice io T.items.length icap, .slice ko T.keys.length kcap] := by
  obtain ⟨io, icap, ko, kcap, e, _⟩ := hI
  exact ⟨io, icap, ko, kcap, e⟩
end Go.Proofs.Ytaflpeajapdkdaa
