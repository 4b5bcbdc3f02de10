import Derived.Test.YtjfbbdhmcljhnaaZT6
import Derived.Test.YtjfbbdhmcljhnaaZH3
import Derived.Maps.AppendAt
namespace Go.Proofs.Ytjfbbdhmcljhnaa
open Go.RowKit Go.Maps Go.Sort Go.Shelf
set_option linter.unusedVariables false
set_option linter.unusedSimpArgs false

def encK (ky : Nat → ByteArray) (c : Nat → Fin 5 → Value) (i : Nat) : Array Value := #[.string (ky i), .agg #[c i 0, c i 1, c i 2, c i 3, c i 4]]
def kyL (ky : Nat → ByteArray) (l : List Nat) : List Value := l.map fun i => .string (ky i)
def flL (c : Nat → Fin 5 → Value) (l : List Nat) : List Value := l.flatMap fun i => [c i 0, c i 1, c i 2, c i 3, c i 4]
theorem kyL_snoc (ky : Nat → ByteArray) (l : List Nat) (i : Nat) : kyL ky (l ++ [i]) = kyL ky l ++ [.string (ky i)] := by simp [kyL]
theorem flL_snoc (c : Nat → Fin 5 → Value) (l : List Nat) (i : Nat) : flL c (l ++ [i]) = flL c l ++ [c i 0, c i 1, c i 2, c i 3, c i 4] := by simp [flL]

/-- what gathered holds, so many keys and so many items -/
structure GaS (w : World) (B : Nat) (ky : Nat → ByteArray) (c : Nat → Fin 5 → Value) (lk li : List Nat) (vi vk : Value) (W : World) : Prop where
  below : Below w.heap.size w W
  res : W.heap[w.heap.size]? = some (.cells #[.int .i64 0, .string ⟨#[]⟩, .string ⟨#[]⟩, .slice none 0 0, .slice none 0 0] 25 (0, 0))
  out : W.heap[B]? = some (.cells #[.int .i64 6, .string ⟨#[]⟩, .string ⟨#[]⟩, vi, vk] 25 (0, 0))
  keys : W.ownsRow (w.heap.size + 2) 9 1 vk lk.length (kyL ky lk)
  items : W.ownsRow (w.heap.size + 2) 25 5 vi li.length (flL c li)
def GaI (w : World) (ky : Nat → ByteArray) (c : Nat → Fin 5 → Value) {M : Nat} (pre : List { i : Nat // i < M }) (W : World) : Prop := ∃ vi vk, GaS w (w.heap.size + 1) ky c (pre.map (·.1)) (pre.map (·.1)) vi vk W

theorem own_blk {w w' : World} {base : Nat} {e : TypeId} {size : Nat} {v : Value} {n : Nat} {xs : List Value} (h : w.ownsRow base e size v n xs) (hb : ∀ g, v.ownBlock = some g → w'.heap[g]? = w.heap[g]?) : w'.ownsRow base e size v n xs := by
  refine ⟨h.1, h.2.imp id ?_⟩
  rintro ⟨g, cap, cur, rfl, e2, e3, rest⟩
  exact ⟨g, cap, cur, rfl, e2, (hb g rfl).trans e3, rest⟩
theorem own_isCells {w : World} {base : Nat} {e : TypeId} {size : Nat} {v : Value} {n : Nat} {xs : List Value} (h : w.ownsRow base e size v n xs) {g : Nat} (hg : v.ownBlock = some g) : ∃ cur, w.heap[g]? = some (.cells cur e (0, 0)) ∧ base ≤ g := by
  rcases h.2 with ⟨rfl, _⟩ | ⟨g', cap, cur, rfl, e2, e3, _⟩
  · cases hg
  · simp [Value.ownBlock] at hg
    subst hg
    exact ⟨cur, e3, e2⟩

theorem GaI.own {w : World} {ky : Nat → ByteArray} {c : Nat → Fin 5 → Value} {M C : Nat} (hC : w.heap.size ≤ C) : OwnFrom C (GaI (M := M) w ky c) := by
  rintro pre A A' row ⟨vi, vk, h⟩ hg hr
  have hc : ∀ {b : Nat} {cs : Array Value} {t : TypeId} {f : Nat × Nat}, A.heap[b]? = some (.cells cs t f) → A'.heap[b]? = A.heap[b]? := fun {b cs t f} hb =>
    hg.block b (Array.getElem?_eq_some_iff.1 hb).1 (fun e => by
      obtain ⟨_, o, ho, hoc⟩ := hr b e.symm
      rw [hb] at ho; cases ho; cases hoc)
  refine ⟨vi, vk, h.below.grown hg h.below.size (fun r e => Nat.le_trans hC (hr r e).1), (hc h.res).trans h.res, (hc h.out).trans h.out, own_blk h.keys fun g e => ?_, own_blk h.items fun g e => ?_⟩
  · obtain ⟨cur, h1, _⟩ := own_isCells h.keys e; exact hc h1
  · obtain ⟨cur, h1, _⟩ := own_isCells h.items e; exact hc h1

/-- only the blocks of X, and new ones, have turned -/
structure Far (X : Nat → Prop) (W W' : World) : Prop where
  os : W'.os = W.os
  tape : W'.tape = W.tape
  output : W'.output = W.output
  size : W.heap.size ≤ W'.heap.size
  block : ∀ b, b < W.heap.size → ¬ X b → W'.heap[b]? = W.heap[b]?
theorem Far.trans {X : Nat → Prop} {A B C : World} (h : Far X A B) (k : Far X B C) : Far X A C :=
  ⟨k.os.trans h.os, k.tape.trans h.tape, k.output.trans h.output, Nat.le_trans h.size k.size, fun b hb hx => (k.block b (Nat.lt_of_lt_of_le hb h.size) hx).trans (h.block b hb hx)⟩
theorem Far.of_below {X : Nat → Prop} {A B : World} (h : Below A.heap.size A B) : Far X A B := ⟨h.os, h.tape, h.output, h.size, fun b hb _ => h.block b hb⟩
theorem Far.of_grown {X : Nat → Prop} {A B : World} {row : Option Nat} (h : A.grownBy B row) (hr : ∀ g, row = some g → X g) : Far X A B := ⟨h.os, h.tape, h.output, h.size, fun b hb hx => h.block b hb (fun e => hx (hr b e.symm))⟩
theorem Far.set {X : Nat → Prop} {A : World} {p : Addr} (v : Value) (hx : X p.block) : Far X A (A.setCell p v) := ⟨rfl, rfl, rfl, by simp, fun b _ hb => Below.heap_setCell _ _ _ _ (fun e => hb (e ▸ hx))⟩
theorem Far.drewR {X : Nat → Prop} {A B : World} (h : Far X A B) : Far X A B.drew := ⟨h.os, h.tape, h.output, h.size, h.block⟩

/-- what a round keeps, seen from outside -/
theorem kpG_far {w W W' : World} {B : Nat} {ky : Nat → ByteArray} {c : Nat → Fin 5 → Value} {lk li lk' li' : List Nat} {vi vk vi' vk' : Value} {X : Nat → Prop} (hB : w.heap.size ≤ B) (h : GaS w B ky c lk li vi vk W) (h' : GaS w B ky c lk' li' vi' vk' W')
    (hf : Far X W W') (hX : ∀ b, b < W.heap.size → X b → b = B ∨ vi.ownBlock = some b ∨ vk.ownBlock = some b) (hvi : ∀ g, vi'.ownBlock = some g → vi.ownBlock = some g ∨ W.heap.size ≤ g) (hvk : ∀ g, vk'.ownBlock = some g → vk.ownBlock = some g ∨ W.heap.size ≤ g) :
    KpG w.heap.size B W W' ∧ ∀ m, KeepsFrom m W W' := by
  have c3 : W.cell? ⟨B, 3, none⟩ = some vi := cell_of_row _ _ 3 _ _ _ h.out
  have c4 : W.cell? ⟨B, 4, none⟩ = some vk := cell_of_row _ _ 4 _ _ _ h.out
  have d3 : W'.cell? ⟨B, 3, none⟩ = some vi' := cell_of_row _ _ 3 _ _ _ h'.out
  have d4 : W'.cell? ⟨B, 4, none⟩ = some vk' := cell_of_row _ _ 4 _ _ _ h'.out
  have ci : ∀ b, vi.ownBlock = some b → ∃ cur, W.heap[b]? = some (.cells cur 25 (0, 0)) ∧ w.heap.size + 2 ≤ b := fun b e => own_isCells h.items e
  have ck : ∀ b, vk.ownBlock = some b → ∃ cur, W.heap[b]? = some (.cells cur 9 (0, 0)) ∧ w.heap.size + 2 ≤ b := fun b e => own_isCells h.keys e
  refine ⟨⟨⟨hf.os, hf.tape, hf.output, hf.size, fun b hb => ?_⟩, fun b o hb hr ho hc => ?_, fun b hb => ?_⟩, fun m => ⟨hf.size, fun k o _ ho hc => ?_⟩⟩
  · have hbs := h.below.size
    refine hf.block b (by omega) (fun hx => ?_)
    rcases hX b (by omega) hx with rfl | e | e
    · omega
    · obtain ⟨_, _, h2⟩ := ci b e; omega
    · obtain ⟨_, _, h2⟩ := ck b e; omega
  · have hl := (Array.getElem?_eq_some_iff.1 ho).1
    rw [hf.block b hl (fun hx => ?_)]
    · exact ho
    · rcases hX b hl hx with e | e | e
      · exact hb e
      · exact hr ⟨vi, .inl c3, e⟩
      · exact hr ⟨vk, .inr c4, e⟩
  · obtain ⟨v, hv | hv, e⟩ := hb
    · rw [d3] at hv; cases hv
      rcases hvi b e with e2 | e2
      · exact .inl ⟨vi, .inl c3, e2⟩
      · exact .inr e2
    · rw [d4] at hv; cases hv
      rcases hvk b e with e2 | e2
      · exact .inl ⟨vk, .inr c4, e2⟩
      · exact .inr e2
  · have hl := (Array.getElem?_eq_some_iff.1 ho).1
    rw [hf.block k hl (fun hx => ?_)]
    · exact ho
    · rcases hX k hl hx with rfl | e | e
      · rw [h.out] at ho; cases ho; cases hc
      · obtain ⟨_, h1, _⟩ := ci k e; rw [h1] at ho; cases ho; cases hc
      · obtain ⟨_, h1, _⟩ := ck k e; rw [h1] at ho; cases ho; cases hc

theorem set_take {l : List Value} {n i : Nat} {v : Value} : (l.set i v).take n = (l.take n).set i v := by
  rw [List.take_set]
/-- the last element of a row laid anew -/
theorem own_last {w : World} {base g n cap : Nat} {xs : List Value} {z0 z1 z2 z3 z4 : Value} (y0 y1 y2 y3 y4 : Value) (h : w.ownsRow base 25 5 (.slice (some ⟨g, 0, none⟩) (n + 1) cap) (n + 1) (xs ++ [z0, z1, z2, z3, z4])) (hx : xs.length = n * 5) :
    (((((w.setCell ⟨g, n * 5, none⟩ y0).setCell ⟨g, n * 5 + 1, none⟩ y1).setCell ⟨g, n * 5 + 2, none⟩ y2).setCell ⟨g, n * 5 + 3, none⟩ y3).setCell ⟨g, n * 5 + 4, none⟩ y4).ownsRow base 25 5 (.slice (some ⟨g, 0, none⟩) (n + 1) cap) (n + 1) (xs ++ [y0, y1, y2, y3, y4]) := by
  rcases h.2 with ⟨e, _⟩ | ⟨g', cap', cur, e, h1, h2, h3, h4, h5, h6⟩
  · cases e
  · simp only [Value.slice.injEq, Option.some.injEq, Addr.mk.injEq] at e
    obtain ⟨⟨rfl, _, _⟩, _, rfl⟩ := e
    have st : ∀ (u : World) (cs : Array Value) (i : Nat) (v : Value), u.heap[g]? = some (.cells cs 25 (0, 0)) → (u.setCell ⟨g, i, none⟩ v).heap[g]? = some (.cells (cs.setIfInBounds i v) 25 (0, 0)) := fun u cs i v hu => by
      show (u.heap.modify g _)[g]? = _
      rw [Array.getElem?_modify, if_pos rfl, hu]; rfl
    refine ⟨by simp [hx]; omega, .inr ⟨g, cap, ((((cur.setIfInBounds (n * 5) y0).setIfInBounds (n * 5 + 1) y1).setIfInBounds (n * 5 + 2) y2).setIfInBounds (n * 5 + 3) y3).setIfInBounds (n * 5 + 4) y4, rfl, h1, st _ _ _ _ (st _ _ _ _ (st _ _ _ _ (st _ _ _ _ (st _ _ _ _ h2)))), h3, h4, by simpa using h5, ?_⟩⟩
    simp only [Array.toList_setIfInBounds, set_take, h6]
    rw [← hx]
    simp [List.set_append]
end Go.Proofs.Ytjfbbdhmcljhnaa
