import Derived.Test.YtbaknnpjbokilaaM7
namespace Go.Proofs.Ytbaknnpjbokilaa
open Go.RowKit
set_option linter.unusedVariables false
set_option linter.unusedSimpArgs false

/-- a value as a tree -/
inductive VT where
  | mk (kind : Int) (num text : ByteArray) (items : List VT) (keys : List ByteArray)
def VT.kind : VT → Int | .mk k _ _ _ _ => k
def VT.num : VT → ByteArray | .mk _ n _ _ _ => n
def VT.text : VT → ByteArray | .mk _ _ t _ _ => t
def VT.items : VT → List VT | .mk _ _ _ i _ => i
def VT.keys : VT → List ByteArray | .mk _ _ _ _ k => k

/-- a row of texts, as it lies -/
structure KIn (W : World) (ko : Option Addr) (keys : List ByteArray) : Prop where
  row : 0 < keys.length → ∃ b off, ko = some ⟨b, off, none⟩ ∧ b < W.heap.size ∧ ∀ i, i < keys.length → W.cell? ⟨b, off + i, none⟩ = some (.string (keys.getD i .empty))
theorem KIn.keep {W W' : World} {ko : Option Addr} {keys : List ByteArray} (h : KIn W ko keys) (hb : Below W.heap.size W W') : KIn W' ko keys := by
  refine ⟨fun h0 => ?_⟩
  obtain ⟨b, off, e, hl, hc⟩ := h.row h0
  exact ⟨b, off, e, Nat.lt_of_lt_of_le hl hb.size, fun i hi => (hb.cell (p := ⟨b, off + i, none⟩) hl).trans (hc i hi)⟩

/-- the cells of an item -/
def ICell (W : World) (b off i : Nat) (v : Fin 5 → Value) : Prop := ∀ j : Fin 5, W.cell? ⟨b, off + i * 5 + j.val, none⟩ = some (v j)

/-- the tree stands in the world, at most so high -/
def InH (W : World) : Nat → VT → Value → Prop
  | 0, _, _ => False
  | h + 1, T, v => ∃ (io : Option Addr) (icap : Nat) (ko : Option Addr) (kcap : Nat),
      v = .agg #[.int .i64 T.kind, .string T.num, .string T.text, .slice io T.items.length icap, .slice ko T.keys.length kcap] ∧
      T.num.size ≤ 140737488355328 ∧ T.text.size ≤ 140737488355328 ∧ T.items.length ≤ 140737488355328 ∧ T.keys.length ≤ 140737488355328 ∧ T.items.length ≤ icap ∧ T.keys.length ≤ kcap ∧
      (∀ k ∈ T.keys, k.size ≤ 140737488355328) ∧ KIn W ko T.keys ∧
      (0 < T.items.length → ∃ b off, io = some ⟨b, off, none⟩ ∧ b < W.heap.size ∧ ∀ i, (hi : i < T.items.length) → ∃ v0 v1 v2 v3 v4 : Value,
        (W.cell? ⟨b, off + i * 5, none⟩ = some v0 ∧ W.cell? ⟨b, off + i * 5 + 1, none⟩ = some v1 ∧ W.cell? ⟨b, off + i * 5 + 2, none⟩ = some v2 ∧ W.cell? ⟨b, off + i * 5 + 3, none⟩ = some v3 ∧ W.cell? ⟨b, off + i * 5 + 4, none⟩ = some v4) ∧ InH W h T.items[i] (.agg #[v0, v1, v2, v3, v4]))
theorem InH.keep {W W' : World} (hb : Below W.heap.size W W') : ∀ {h : Nat} {T : VT} {v : Value}, InH W h T v → InH W' h T v
  | 0, _, _, h => h
  | h + 1, T, v, hI => by
    obtain ⟨io, icap, ko, kcap, e, a1, a2, a3, a4, a5, a6, a7, hk, hi⟩ := hI
    refine ⟨io, icap, ko, kcap, e, a1, a2, a3, a4, a5, a6, a7, hk.keep hb, fun h0 => ?_⟩
    obtain ⟨b, off, e2, hl, hc⟩ := hi h0
    refine ⟨b, off, e2, Nat.lt_of_lt_of_le hl hb.size, fun i hil => ?_⟩
    obtain ⟨v0, v1, v2, v3, v4, ⟨c0, c1, c2, c3, c4⟩, ht⟩ := hc i hil
    exact ⟨v0, v1, v2, v3, v4, ⟨(hb.cell (p := ⟨_, _, _⟩) hl).trans c0, (hb.cell (p := ⟨_, _, _⟩) hl).trans c1, (hb.cell (p := ⟨_, _, _⟩) hl).trans c2, (hb.cell (p := ⟨_, _, _⟩) hl).trans c3, (hb.cell (p := ⟨_, _, _⟩) hl).trans c4⟩, InH.keep hb ht⟩

/-- the row of a value's items, as it lies -/
structure IIn (W : World) (h : Nat) (io : Option Addr) (ts : List VT) : Prop where
  row : 0 < ts.length → ∃ b off, io = some ⟨b, off, none⟩ ∧ b < W.heap.size ∧ ∀ i, (hi : i < ts.length) → ∃ v0 v1 v2 v3 v4 : Value,
        (W.cell? ⟨b, off + i * 5, none⟩ = some v0 ∧ W.cell? ⟨b, off + i * 5 + 1, none⟩ = some v1 ∧ W.cell? ⟨b, off + i * 5 + 2, none⟩ = some v2 ∧ W.cell? ⟨b, off + i * 5 + 3, none⟩ = some v3 ∧ W.cell? ⟨b, off + i * 5 + 4, none⟩ = some v4) ∧ InH W h ts[i] (.agg #[v0, v1, v2, v3, v4])
theorem IIn.keep {W W' : World} {h : Nat} {io : Option Addr} {ts : List VT} (hI : IIn W h io ts) (hb : Below W.heap.size W W') : IIn W' h io ts := by
  refine ⟨fun h0 => ?_⟩
  obtain ⟨b, off, e2, hl, hc⟩ := hI.row h0
  refine ⟨b, off, e2, Nat.lt_of_lt_of_le hl hb.size, fun i hil => ?_⟩
  obtain ⟨v0, v1, v2, v3, v4, ⟨c0, c1, c2, c3, c4⟩, ht⟩ := hc i hil
  exact ⟨v0, v1, v2, v3, v4, ⟨(hb.cell (p := ⟨_, _, _⟩) hl).trans c0, (hb.cell (p := ⟨_, _, _⟩) hl).trans c1, (hb.cell (p := ⟨_, _, _⟩) hl).trans c2, (hb.cell (p := ⟨_, _, _⟩) hl).trans c3, (hb.cell (p := ⟨_, _, _⟩) hl).trans c4⟩, InH.keep hb ht⟩

/-- a value's box -/
structure VBx (w u : World) (a b c d e : Value) : Prop where
  below : Below w.heap.size w u
  c0 : u.cell? ⟨w.heap.size, 0, none⟩ = some a
  c1 : u.cell? ⟨w.heap.size, 1, none⟩ = some b
  c2 : u.cell? ⟨w.heap.size, 2, none⟩ = some c
  c3 : u.cell? ⟨w.heap.size, 3, none⟩ = some d
  c4 : u.cell? ⟨w.heap.size, 4, none⟩ = some e
  lt : w.heap.size < u.heap.size
theorem VBx.keep {w u u' : World} {a b c d e : Value} (h : VBx w u a b c d e) (hb : Below u.heap.size u u') : VBx w u' a b c d e :=
  ⟨h.below.trans (hb.mono h.below.size), (hb.cell (p := ⟨_, _, _⟩) h.lt).trans h.c0, (hb.cell (p := ⟨_, _, _⟩) h.lt).trans h.c1, (hb.cell (p := ⟨_, _, _⟩) h.lt).trans h.c2, (hb.cell (p := ⟨_, _, _⟩) h.lt).trans h.c3, (hb.cell (p := ⟨_, _, _⟩) h.lt).trans h.c4, Nat.lt_of_lt_of_le h.lt hb.size⟩
theorem VBx.drew {w u : World} {a b c d e : Value} (h : VBx w u a b c d e) : VBx w u.drew a b c d e := ⟨h.below.drew, h.c0, h.c1, h.c2, h.c3, h.c4, h.lt⟩
theorem vbx_new (w : World) (a b c d e : Value) : VBx w (w.alloc (.cells #[a, b, c, d, e] 25)) a b c d e :=
  ⟨(Below.refl _ _).alloc (Nat.le_refl _) _, by simp [go_sem], by simp [go_sem], by simp [go_sem], by simp [go_sem], by simp [go_sem], by simp⟩

end Go.Proofs.Ytbaknnpjbokilaa
