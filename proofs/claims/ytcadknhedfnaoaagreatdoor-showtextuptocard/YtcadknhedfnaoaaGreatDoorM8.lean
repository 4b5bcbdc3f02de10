import Derived.Test.YtcadknhedfnaoaaGreatDoorM7
import Derived.Laws.OwnMore
namespace Go.Proofs.YtcadknhedfnaoaaGreatDoor
open Go.RowKit
set_option linter.unusedVariables false
set_option linter.unusedSimpArgs false

/-- the tree stands in memory from lo on -/
def InF (lo : Nat) (W : World) : Nat → VT → Value → Prop
  | 0, _, _ => False
  | h + 1, T, v => ∃ (io : Option Addr) (icap : Nat) (ko : Option Addr) (kcap : Nat),
      v = .agg #[.int .i64 T.kind, .string T.num, .string T.text, .slice io T.items.length icap, .slice ko T.keys.length kcap] ∧
      T.num.size ≤ 140737488355328 ∧ T.text.size ≤ 140737488355328 ∧ T.items.length ≤ 140737488355328 ∧ T.keys.length ≤ 140737488355328 ∧ T.items.length ≤ icap ∧ T.keys.length ≤ kcap ∧
      (∀ k ∈ T.keys, k.size ≤ 140737488355328) ∧
      (0 < T.keys.length → ∃ b off, ko = some ⟨b, off, none⟩ ∧ lo ≤ b ∧ b < W.heap.size ∧ ∀ i, i < T.keys.length → W.cell? ⟨b, off + i, none⟩ = some (.string (T.keys.getD i .empty))) ∧
      (0 < T.items.length → ∃ b off, io = some ⟨b, off, none⟩ ∧ lo ≤ b ∧ b < W.heap.size ∧ ∀ i, (hi : i < T.items.length) → ∃ v0 v1 v2 v3 v4 : Value,
        (W.cell? ⟨b, off + i * 5, none⟩ = some v0 ∧ W.cell? ⟨b, off + i * 5 + 1, none⟩ = some v1 ∧ W.cell? ⟨b, off + i * 5 + 2, none⟩ = some v2 ∧ W.cell? ⟨b, off + i * 5 + 3, none⟩ = some v3 ∧ W.cell? ⟨b, off + i * 5 + 4, none⟩ = some v4) ∧ InF lo W h T.items[i] (.agg #[v0, v1, v2, v3, v4]))
theorem InF.toH {lo : Nat} {W : World} : ∀ {h : Nat} {T : VT} {v : Value}, InF lo W h T v → InH W h T v
  | 0, _, _, h => h
  | h + 1, T, v, hI => by
    obtain ⟨io, icap, ko, kcap, e, a1, a2, a3, a4, a5, a6, a7, hk, hi⟩ := hI
    refine ⟨io, icap, ko, kcap, e, a1, a2, a3, a4, a5, a6, a7, ⟨fun h0 => ?_⟩, fun h0 => ?_⟩
    · obtain ⟨b, off, e2, _, hl, hc⟩ := hk h0
      exact ⟨b, off, e2, hl, hc⟩
    · obtain ⟨b, off, e2, _, hl, hc⟩ := hi h0
      refine ⟨b, off, e2, hl, fun i hil => ?_⟩
      obtain ⟨v0, v1, v2, v3, v4, c, ht⟩ := hc i hil
      exact ⟨v0, v1, v2, v3, v4, c, InF.toH ht⟩
theorem InF.keepB {lo lo' : Nat} {W W' : World} (hz : W.heap.size ≤ W'.heap.size) (hs : ∀ b, lo ≤ b → b < W.heap.size → W'.heap[b]? = W.heap[b]?) (hlo : lo' ≤ lo) : ∀ {h : Nat} {T : VT} {v : Value}, InF lo W h T v → InF lo' W' h T v
  | 0, _, _, h => h
  | h + 1, T, v, hI => by
    obtain ⟨io, icap, ko, kcap, e, a1, a2, a3, a4, a5, a6, a7, hk, hi⟩ := hI
    have cc : ∀ b o u, lo ≤ b → b < W.heap.size → W.cell? ⟨b, o, none⟩ = some u → W'.cell? ⟨b, o, none⟩ = some u := fun b o u h1 h2 h3 => (World.cell?_of_block (a := ⟨b, o, none⟩) (hs b h1 h2)).trans h3
    refine ⟨io, icap, ko, kcap, e, a1, a2, a3, a4, a5, a6, a7, fun h0 => ?_, fun h0 => ?_⟩
    · obtain ⟨b, off, e2, hb, hl, hc⟩ := hk h0
      exact ⟨b, off, e2, Nat.le_trans hlo hb, Nat.lt_of_lt_of_le hl hz, fun i hi => cc _ _ _ hb hl (hc i hi)⟩
    · obtain ⟨b, off, e2, hb, hl, hc⟩ := hi h0
      refine ⟨b, off, e2, Nat.le_trans hlo hb, Nat.lt_of_lt_of_le hl hz, fun i hil => ?_⟩
      obtain ⟨v0, v1, v2, v3, v4, ⟨c0, c1, c2, c3, c4⟩, ht⟩ := hc i hil
      exact ⟨v0, v1, v2, v3, v4, ⟨cc _ _ _ hb hl c0, cc _ _ _ hb hl c1, cc _ _ _ hb hl c2, cc _ _ _ hb hl c3, cc _ _ _ hb hl c4⟩, InF.keepB hz hs hlo ht⟩
theorem InF.low {lo : Nat} {W W' : World} {h : Nat} {T : VT} {v : Value} (hI : InF lo W h T v) (hb : Below W.heap.size W W') : InF lo W' h T v := InF.keepB hb.size (fun b _ hl => hb.block b hl) (Nat.le_refl _) hI

/-- cells laid one behind the other, five by five -/
def flat (c : Nat → Fin 5 → Value) (k : Nat) : List Value := (List.range k).flatMap fun i => [c i 0, c i 1, c i 2, c i 3, c i 4]
theorem flat_up (c : Nat → Fin 5 → Value) (k : Nat) : flat c (k + 1) = flat c k ++ [c k 0, c k 1, c k 2, c k 3, c k 4] := by unfold flat; rw [List.range_succ, List.flatMap_append]; simp
theorem flat_len (c : Nat → Fin 5 → Value) (k : Nat) : (flat c k).length = k * 5 := by
  induction k with
  | zero => rfl
  | succ k ih => rw [flat_up, List.length_append, ih]; simp; omega
theorem flat_eq {c d : Nat → Fin 5 → Value} {k : Nat} (h : ∀ i, i < k → c i = d i) : flat c k = flat d k := by
  induction k with
  | zero => rfl
  | succ k ih => rw [flat_up, flat_up, ih (fun i hi => h i (by omega)), h k (by omega)]
theorem flat_get (c : Nat → Fin 5 → Value) : ∀ (k i : Nat) (j : Fin 5), i < k → (flat c k)[i * 5 + j.1]? = some (c i j)
  | 0, _, _, h => by omega
  | k + 1, i, j, h => by
    have hj := j.2
    rw [flat_up]
    by_cases hi : i < k
    · rw [List.getElem?_append_left (by rw [flat_len]; omega)]
      exact flat_get c k i j hi
    · have e : i = k := by omega
      subst e
      rw [List.getElem?_append_right (by rw [flat_len]; omega), flat_len, show i * 5 + j.1 - i * 5 = j.1 from by omega]
      match j with
      | 0 => rfl
      | 1 => rfl
      | 2 => rfl
      | 3 => rfl
      | 4 => rfl
theorem own_cellAt {w : World} {base : Nat} {e : TypeId} {size g n cap : Nat} {xs : List Value} (h : w.ownsRow base e size (.slice (some ⟨g, 0, none⟩) n cap) n xs) {j : Nat} (hj : j < n * size) : w.cell? ⟨g, j, none⟩ = xs[j]? := by
  rcases h.2 with ⟨h1, _⟩ | ⟨g', cap', cur, h1, _, hb, _, _, _, hx⟩
  · cases h1
  · simp only [Value.slice.injEq, Option.some.injEq, Addr.mk.injEq] at h1
    obtain ⟨⟨rfl, _, _⟩, _, _⟩ := h1
    rw [cell_of_row _ _ _ _ _ _ hb, ← hx, List.getElem?_take_of_lt hj, Array.getElem?_toList]

end Go.Proofs.YtcadknhedfnaoaaGreatDoor
namespace Go.Proofs.YtcadknhedfnaoaaGreatDoor
open Go.RowKit Go.Shelf
set_option linter.unusedVariables false
set_option linter.unusedSimpArgs false

/-- all that lay is as it lay, but one block -/
structure Bt (I : Nat) (w w' : World) : Prop where
  os : w'.os = w.os
  tape : w'.tape = w.tape
  output : w'.output = w.output
  size : w.heap.size ≤ w'.heap.size
  block : ∀ k, k < w.heap.size → k ≠ I → w'.heap[k]? = w.heap[k]?
theorem Bt.of {I : Nat} {w w' : World} (h : Below w.heap.size w w') : Bt I w w' := ⟨h.os, h.tape, h.output, h.size, fun k hk _ => h.block k hk⟩
theorem Bt.refl (I : Nat) (w : World) : Bt I w w := Bt.of (Below.refl _ _)
theorem Bt.trans {I : Nat} {a b c : World} (h : Bt I a b) (k : Bt I b c) : Bt I a c :=
  ⟨k.os.trans h.os, k.tape.trans h.tape, k.output.trans h.output, Nat.le_trans h.size k.size, fun i hi hn => (k.block i (Nat.lt_of_lt_of_le hi h.size) hn).trans (h.block i hi hn)⟩
theorem Bt.below {I n : Nat} {w w' : World} (h : Bt I w w') (hn : n ≤ w.heap.size) (hI : n ≤ I) : Below n w w' := ⟨h.os, h.tape, h.output, h.size, fun k hk => h.block k (by omega) (by omega)⟩
theorem Bt.step {I n : Nat} {w a b : World} (h : Bt I w a) (hn : w.heap.size ≤ n) (k : Below n a b) : Bt I w b :=
  ⟨k.os.trans h.os, k.tape.trans h.tape, k.output.trans h.output, Nat.le_trans h.size k.size, fun i hi hne => (k.block i (by omega)).trans (h.block i hi hne)⟩
theorem Bt.set {I : Nat} {w a : World} (h : Bt I w a) (j : Nat) (v : Value) : Bt I w (a.setCell ⟨I, j, none⟩ v) :=
  ⟨h.os, h.tape, h.output, by simp [World.setCell]; exact h.size, fun k hk hn => (Below.heap_setCell _ _ _ _ hn).trans (h.block k hk hn)⟩
theorem Bt.set2 {I : Nat} {w a : World} (h : Bt I w a) (g j : Nat) (hg : w.heap.size ≤ g) (v : Value) : Bt I w (a.setCell ⟨g, j, none⟩ v) :=
  ⟨h.os, h.tape, h.output, by simp [World.setCell]; exact h.size, fun k hk hn => (Below.heap_setCell _ _ _ _ (by show k ≠ g; omega)).trans (h.block k hk hn)⟩
theorem Bt.alloc {I : Nat} {w a : World} (h : Bt I w a) (o : Obj) : Bt I w (a.alloc o) := h.step (n := a.heap.size) h.size ((Below.refl _ _).alloc (Nat.le_refl _) o)

/-- a value's tree stands in memory, in such blocks -/
def InV (D : Nat → Prop) (W : World) : Nat → VT → Value → Prop
  | 0, _, _ => False
  | h + 1, T, v => ∃ (io : Option Addr) (icap : Nat) (ko : Option Addr) (kcap : Nat),
      v = .agg #[.int .i64 T.kind, .string T.num, .string T.text, .slice io T.items.length icap, .slice ko T.keys.length kcap] ∧
      T.num.size ≤ 140737488355328 ∧ T.text.size ≤ 140737488355328 ∧ T.items.length ≤ 140737488355328 ∧ T.keys.length ≤ 140737488355328 ∧ T.items.length ≤ icap ∧ T.keys.length ≤ kcap ∧
      (∀ k ∈ T.keys, k.size ≤ 140737488355328) ∧
      (0 < T.keys.length → ∃ b off, ko = some ⟨b, off, none⟩ ∧ D b ∧ b < W.heap.size ∧ ∀ i, i < T.keys.length → W.cell? ⟨b, off + i, none⟩ = some (.string (T.keys.getD i .empty))) ∧
      (0 < T.items.length → ∃ b off, io = some ⟨b, off, none⟩ ∧ D b ∧ b < W.heap.size ∧ ∀ i, (hi : i < T.items.length) → ∃ v0 v1 v2 v3 v4 : Value,
        (W.cell? ⟨b, off + i * 5, none⟩ = some v0 ∧ W.cell? ⟨b, off + i * 5 + 1, none⟩ = some v1 ∧ W.cell? ⟨b, off + i * 5 + 2, none⟩ = some v2 ∧ W.cell? ⟨b, off + i * 5 + 3, none⟩ = some v3 ∧ W.cell? ⟨b, off + i * 5 + 4, none⟩ = some v4) ∧ InV D W h T.items[i] (.agg #[v0, v1, v2, v3, v4]))
theorem InV.keep {D D' : Nat → Prop} {W W' : World} (hz : W.heap.size ≤ W'.heap.size) (hs : ∀ b, D b → b < W.heap.size → W'.heap[b]? = W.heap[b]?) (hlo : ∀ b, D b → b < W.heap.size → D' b) : ∀ {h : Nat} {T : VT} {v : Value}, InV D W h T v → InV D' W' h T v
  | 0, _, _, h => h
  | h + 1, T, v, hI => by
    obtain ⟨io, icap, ko, kcap, e, a1, a2, a3, a4, a5, a6, a7, hk, hi⟩ := hI
    have cc : ∀ b o u, D b → b < W.heap.size → W.cell? ⟨b, o, none⟩ = some u → W'.cell? ⟨b, o, none⟩ = some u := fun b o u h1 h2 h3 => (World.cell?_of_block (a := ⟨b, o, none⟩) (hs b h1 h2)).trans h3
    refine ⟨io, icap, ko, kcap, e, a1, a2, a3, a4, a5, a6, a7, fun h0 => ?_, fun h0 => ?_⟩
    · obtain ⟨b, off, e2, hb, hl, hc⟩ := hk h0
      exact ⟨b, off, e2, hlo b hb hl, Nat.lt_of_lt_of_le hl hz, fun i hi => cc _ _ _ hb hl (hc i hi)⟩
    · obtain ⟨b, off, e2, hb, hl, hc⟩ := hi h0
      refine ⟨b, off, e2, hlo b hb hl, Nat.lt_of_lt_of_le hl hz, fun i hil => ?_⟩
      obtain ⟨v0, v1, v2, v3, v4, ⟨c0, c1, c2, c3, c4⟩, ht⟩ := hc i hil
      exact ⟨v0, v1, v2, v3, v4, ⟨cc _ _ _ hb hl c0, cc _ _ _ hb hl c1, cc _ _ _ hb hl c2, cc _ _ _ hb hl c3, cc _ _ _ hb hl c4⟩, InV.keep hz hs hlo ht⟩
theorem InV.ofH {W : World} : ∀ {h : Nat} {T : VT} {v : Value}, InH W h T v → InV (fun _ => True) W h T v
  | 0, _, _, h => h
  | h + 1, T, v, hI => by
    obtain ⟨io, icap, ko, kcap, e, a1, a2, a3, a4, a5, a6, a7, ⟨hk⟩, hi⟩ := hI
    refine ⟨io, icap, ko, kcap, e, a1, a2, a3, a4, a5, a6, a7, fun h0 => ?_, fun h0 => ?_⟩
    · obtain ⟨b, off, e2, hl, hc⟩ := hk h0
      exact ⟨b, off, e2, trivial, hl, hc⟩
    · obtain ⟨b, off, e2, hl, hc⟩ := hi h0
      refine ⟨b, off, e2, trivial, hl, fun i hil => ?_⟩
      obtain ⟨v0, v1, v2, v3, v4, c, ht⟩ := hc i hil
      exact ⟨v0, v1, v2, v3, v4, c, InV.ofH ht⟩
theorem InV.toH {D : Nat → Prop} {W : World} : ∀ {h : Nat} {T : VT} {v : Value}, InV D W h T v → InH W h T v
  | 0, _, _, h => h
  | h + 1, T, v, hI => by
    obtain ⟨io, icap, ko, kcap, e, a1, a2, a3, a4, a5, a6, a7, hk, hi⟩ := hI
    refine ⟨io, icap, ko, kcap, e, a1, a2, a3, a4, a5, a6, a7, ⟨fun h0 => ?_⟩, fun h0 => ?_⟩
    · obtain ⟨b, off, e2, _, hl, hc⟩ := hk h0
      exact ⟨b, off, e2, hl, hc⟩
    · obtain ⟨b, off, e2, _, hl, hc⟩ := hi h0
      refine ⟨b, off, e2, hl, fun i hil => ?_⟩
      obtain ⟨v0, v1, v2, v3, v4, c, ht⟩ := hc i hil
      exact ⟨v0, v1, v2, v3, v4, c, InV.toH ht⟩

/-- a filter as a tree -/
inductive NT where
  | mk (op at_ : Int) (text : ByteArray) (value : VT) (names : List ByteArray) (kids : List NT)
def NT.op : NT → Int | .mk a _ _ _ _ _ => a
def NT.at_ : NT → Int | .mk _ a _ _ _ _ => a
def NT.text : NT → ByteArray | .mk _ _ a _ _ _ => a
def NT.value : NT → VT | .mk _ _ _ a _ _ => a
def NT.names : NT → List ByteArray | .mk _ _ _ _ a _ => a
def NT.kids : NT → List NT | .mk _ _ _ _ _ a => a
def ndV (c : Fin 10 → Value) : Value := .agg #[c 0, c 1, c 2, c 3, c 4, c 5, c 6, c 7, c 8, c 9]
/-- a filter's tree stands in memory, in such blocks, no higher than so -/
def InN (D : Nat → Prop) (W : World) : Nat → NT → Value → Prop
  | 0, _, _ => False
  | h + 1, T, v => ∃ (io : Option Addr) (icap : Nat) (yo : Option Addr) (ycap : Nat) (no : Option Addr) (nc : Nat) (ko : Option Addr) (kc : Nat),
      v = .agg #[.int .i64 T.op, .int .i64 T.at_, .string T.text, .int .i64 T.value.kind, .string T.value.num, .string T.value.text, .slice io T.value.items.length icap, .slice yo T.value.keys.length ycap, .slice no T.names.length nc, .slice ko T.kids.length kc] ∧
      T.text.size ≤ 140737488355328 ∧ InV D W (h + 1) T.value (.agg #[.int .i64 T.value.kind, .string T.value.num, .string T.value.text, .slice io T.value.items.length icap, .slice yo T.value.keys.length ycap]) ∧
      (T.names.length ≤ nc ∧ T.names.length ≤ 140737488355328 ∧ ∀ k ∈ T.names, k.size ≤ 140737488355328) ∧
      (T.kids.length ≤ kc ∧ T.kids.length ≤ 140737488355328) ∧
      (0 < T.names.length → ∃ b off, no = some ⟨b, off, none⟩ ∧ D b ∧ b < W.heap.size ∧ ∀ i, i < T.names.length → W.cell? ⟨b, off + i, none⟩ = some (.string (T.names.getD i .empty))) ∧
      (0 < T.kids.length → ∃ b off, ko = some ⟨b, off, none⟩ ∧ D b ∧ b < W.heap.size ∧ ∀ i, (hi : i < T.kids.length) → ∃ c : Fin 10 → Value,
        (∀ j : Fin 10, W.cell? ⟨b, off + i * 10 + j.1, none⟩ = some (c j)) ∧ InN D W h T.kids[i] (ndV c))
theorem InN.keep {D D' : Nat → Prop} {W W' : World} (hz : W.heap.size ≤ W'.heap.size) (hs : ∀ b, D b → b < W.heap.size → W'.heap[b]? = W.heap[b]?) (hlo : ∀ b, D b → b < W.heap.size → D' b) : ∀ {h : Nat} {T : NT} {v : Value}, InN D W h T v → InN D' W' h T v
  | 0, _, _, h => h
  | h + 1, T, v, hI => by
    obtain ⟨io, icap, yo, ycap, no, nc, ko, kc, e, a1, a2, a3, a4, hn, hk⟩ := hI
    have cc : ∀ b o u, D b → b < W.heap.size → W.cell? ⟨b, o, none⟩ = some u → W'.cell? ⟨b, o, none⟩ = some u := fun b o u h1 h2 h3 => (World.cell?_of_block (a := ⟨b, o, none⟩) (hs b h1 h2)).trans h3
    refine ⟨io, icap, yo, ycap, no, nc, ko, kc, e, a1, a2.keep hz hs hlo, a3, a4, fun h0 => ?_, fun h0 => ?_⟩
    · obtain ⟨b, off, e2, hb, hl, hc⟩ := hn h0
      exact ⟨b, off, e2, hlo b hb hl, Nat.lt_of_lt_of_le hl hz, fun i hi => cc _ _ _ hb hl (hc i hi)⟩
    · obtain ⟨b, off, e2, hb, hl, hc⟩ := hk h0
      refine ⟨b, off, e2, hlo b hb hl, Nat.lt_of_lt_of_le hl hz, fun i hil => ?_⟩
      obtain ⟨c, h1, ht⟩ := hc i hil
      exact ⟨c, fun j => cc _ _ _ hb hl (h1 j), InN.keep hz hs hlo ht⟩
theorem InV.up {D : Nat → Prop} {W : World} : ∀ {h : Nat} {T : VT} {v : Value}, InV D W h T v → InV D W (h + 1) T v
  | 0, _, _, h => h.elim
  | h + 1, T, v, hI => by
    obtain ⟨io, icap, ko, kcap, e, a1, a2, a3, a4, a5, a6, a7, hk, hi⟩ := hI
    refine ⟨io, icap, ko, kcap, e, a1, a2, a3, a4, a5, a6, a7, hk, fun h0 => ?_⟩
    obtain ⟨b, off, e2, hb, hl, hc⟩ := hi h0
    refine ⟨b, off, e2, hb, hl, fun i hil => ?_⟩
    obtain ⟨v0, v1, v2, v3, v4, c, ht⟩ := hc i hil
    exact ⟨v0, v1, v2, v3, v4, c, ht.up⟩
theorem InN.up {D : Nat → Prop} {W : World} : ∀ {h : Nat} {T : NT} {v : Value}, InN D W h T v → InN D W (h + 1) T v
  | 0, _, _, h => h.elim
  | h + 1, T, v, hI => by
    obtain ⟨io, icap, yo, ycap, no, nc, ko, kc, e, a1, a2, a3, a4, hn, hk⟩ := hI
    refine ⟨io, icap, yo, ycap, no, nc, ko, kc, e, a1, a2.up, a3, a4, hn, fun h0 => ?_⟩
    obtain ⟨b, off, e2, hb, hl, hc⟩ := hk h0
    refine ⟨b, off, e2, hb, hl, fun i hil => ?_⟩
    obtain ⟨c, h1, ht⟩ := hc i hil
    exact ⟨c, h1, ht.up⟩
theorem InN.le {D : Nat → Prop} {W : World} {h h' : Nat} {T : NT} {v : Value} (hI : InN D W h T v) (hle : h ≤ h') : InN D W h' T v := by
  obtain ⟨k, rfl⟩ := Nat.exists_eq_add_of_le hle
  clear hle
  induction k with
  | zero => exact hI
  | succ k ih => exact ih.up
end Go.Proofs.YtcadknhedfnaoaaGreatDoor
namespace Go.Proofs.YtcadknhedfnaoaaGreatDoor
open Go.RowKit Go.Shelf
set_option linter.unusedVariables false
set_option linter.unusedSimpArgs false

/-- are they the same? -/
noncomputable def sq {α : Type} (x y : α) : Bool := @decide (x = y) (Classical.propDecidable _)
theorem sq_iff {α : Type} {x y : α} : sq x y = true ↔ x = y := by unfold sq; exact @decide_eq_true_iff (x = y) (Classical.propDecidable _)
theorem sq_no {α : Type} {x y : α} (h : ¬ x = y) : sq x y = false := by
  cases hb : sq x y with
  | false => rfl
  | true => exact absurd (sq_iff.1 hb) h
theorem sq_yes {α : Type} (x : α) : sq x x = true := sq_iff.2 rfl
theorem sq_comm {α : Type} (x y : α) : sq x y = sq y x := by
  by_cases h : x = y
  · rw [h]
  · rw [sq_no h, sq_no (fun e => h e.symm)]
mutual
/-- a filter without its places -/
def noA : NT → NT
  | .mk op _ tx v ns ks => .mk op 0 tx v ns (noAs ks)
def noAs : List NT → List NT
  | [] => []
  | k :: ks => noA k :: noAs ks
end
theorem noAs_len : ∀ ks : List NT, (noAs ks).length = ks.length
  | [] => rfl
  | k :: ks => by rw [noAs, List.length_cons, List.length_cons, noAs_len ks]
theorem noAs_get : ∀ (ks : List NT) (i : Nat) (h : i < ks.length), (noAs ks)[i]? = some (noA ks[i])
  | [], i, h => absurd h (Nat.not_lt_zero _)
  | k :: ks, 0, h => rfl
  | k :: ks, i + 1, h => by
    rw [noAs]
    simpa using noAs_get ks i (by simpa using h)
theorem noAs_eq {xs ys : List NT} (hl : xs.length = ys.length) (h : ∀ i, (h1 : i < xs.length) → (h2 : i < ys.length) → noA xs[i] = noA ys[i]) : noAs xs = noAs ys := by
  apply List.ext_getElem?
  intro i
  by_cases hi : i < xs.length
  · rw [noAs_get xs i hi, noAs_get ys i (by omega), h i hi (by omega)]
  · rw [List.getElem?_eq_none (by rw [noAs_len]; omega), List.getElem?_eq_none (by rw [noAs_len]; omega)]
theorem noAs_len_eq {xs ys : List NT} (h : noAs xs = noAs ys) : xs.length = ys.length := by
  have := congrArg List.length h
  rwa [noAs_len, noAs_len] at this
theorem noAs_at {xs ys : List NT} (h : noAs xs = noAs ys) {i : Nat} (h1 : i < xs.length) (h2 : i < ys.length) : noA xs[i] = noA ys[i] := by
  have := congrArg (fun l => l[i]?) h
  simp only [noAs_get xs i h1, noAs_get ys i h2, Option.some.injEq] at this
  exact this
theorem noA_eq {A B : NT} : noA A = noA B ↔ A.op = B.op ∧ A.text = B.text ∧ A.value = B.value ∧ A.names = B.names ∧ noAs A.kids = noAs B.kids := by
  obtain ⟨a, b, c, d, e, f⟩ := A
  obtain ⟨a', b', c', d', e', f'⟩ := B
  rw [noA, noA]
  simp only [NT.mk.injEq, NT.op, NT.text, NT.value, NT.names, NT.kids, true_and]
end Go.Proofs.YtcadknhedfnaoaaGreatDoor
