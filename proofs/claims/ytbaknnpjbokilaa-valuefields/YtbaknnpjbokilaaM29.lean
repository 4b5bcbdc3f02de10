import Derived.Test.YtbaknnpjbokilaaM27
import Derived.Test.YtbaknnpjbokilaaM28
import Derived.Maps.AppendAt
import Derived.Laws.EntriesVeiled
namespace Go.Proofs.Ytbaknnpjbokilaa
open Go.RowKit Go.Maps Go.Sort Go.Shelf
set_option linter.unusedVariables false
set_option linter.unusedSimpArgs false

def encK (ky : Nat → ByteArray) (c : Nat → Fin 5 → Value) (i : Nat) : Array Value := #[.string (ky i), .agg #[c i 0, c i 1, c i 2, c i 3, c i 4]]
def kyL (ky : Nat → ByteArray) (l : List Nat) : List Value := l.map fun i => .string (ky i)
def flL (c : Nat → Fin 5 → Value) (l : List Nat) : List Value := l.flatMap fun i => [c i 0, c i 1, c i 2, c i 3, c i 4]
theorem kyL_snoc (ky : Nat → ByteArray) (l : List Nat) (i : Nat) : kyL ky (l ++ [i]) = kyL ky l ++ [.string (ky i)] := by simp [kyL]
theorem flL_snoc (c : Nat → Fin 5 → Value) (l : List Nat) (i : Nat) : flL c (l ++ [i]) = flL c l ++ [c i 0, c i 1, c i 2, c i 3, c i 4] := by simp [flL]

/-- what gathered holds, so many keys and so many items -/
structure GaS (w : World) (B : Nat) (ky : Nat → ByteArray) (c : Nat → Fin 5 → Value) (lk li : List Nat) (vi vk : Value) (W : World) : Prop where
  below : Below w.heap.size w W
  res : W.heap[w.heap.size]? = some (.cells #[.int .i64 0, .string ⟨#[]⟩, .string ⟨#[]⟩, .slice none 0 0, .slice none 0 0] 25 (0, 0))
  out : W.heap[B]? = some (.cells #[.int .i64 6, .string ⟨#[]⟩, .string ⟨#[]⟩, vi, vk] 25 (0, 0))
  keys : W.ownsRow (w.heap.size + 2) 9 1 vk lk.length (kyL ky lk)
  items : W.ownsRow (w.heap.size + 2) 25 5 vi li.length (flL c li)
def GaI (w : World) (ky : Nat → ByteArray) (c : Nat → Fin 5 → Value) {M : Nat} (pre : List { i : Nat // i < M }) (W : World) : Prop := ∃ vi vk, GaS w (w.heap.size + 1) ky c (pre.map (·.1)) (pre.map (·.1)) vi vk W

theorem own_blk {w w' : World} {base : Nat} {e : TypeId} {size : Nat} {v : Value} {n : Nat} {xs : List Value} (h : w.ownsRow base e size v n xs) (hb : ∀ g, v.ownBlock = some g → w'.heap[g]? = w.heap[g]?) : w'.ownsRow base e size v n xs := by
  refine ⟨h.1, h.2.imp id ?_⟩
  rintro ⟨g, cap, cur, rfl, e2, e3, rest⟩
  exact ⟨g, cap, cur, rfl, e2, (hb g rfl).trans e3, rest⟩
theorem own_isCells {w : World} {base : Nat} {e : TypeId} {size : Nat} {v : Value} {n : Nat} {xs : List Value} (h : w.ownsRow base e size v n xs) {g : Nat} (hg : v.ownBlock = some g) : ∃ cur, w.heap[g]? = some (.cells cur e (0, 0)) ∧ base ≤ g := by
  rcases h.2 with ⟨rfl, _⟩ | ⟨g', cap, cur, rfl, e2, e3, _⟩
  · cases hg
  · simp [Value.ownBlock] at hg
    subst hg
    exact ⟨cur, e3, e2⟩

theorem GaI.own {w : World} {ky : Nat → ByteArray} {c : Nat → Fin 5 → Value} {M C : Nat} (hC : w.heap.size ≤ C) : OwnFrom C (GaI (M := M) w ky c) := by
  rintro pre A A' row ⟨vi, vk, h⟩ hg hr
  have hc : ∀ {b : Nat} {cs : Array Value} {t : TypeId} {f : Nat × Nat}, A.heap[b]? = some (.cells cs t f) → A'.heap[b]? = A.heap[b]? := fun {b cs t f} hb =>
    hg.block b (Array.getElem?_eq_some_iff.1 hb).1 (fun e => by
      obtain ⟨_, o, ho, hoc⟩ := hr b e.symm
      rw [hb] at ho; cases ho; cases hoc)
  refine ⟨vi, vk, h.below.grown hg h.below.size (fun r e => Nat.le_trans hC (hr r e).1), (hc h.res).trans h.res, (hc h.out).trans h.out, own_blk h.keys fun g e => ?_, own_blk h.items fun g e => ?_⟩
  · obtain ⟨cur, h1, _⟩ := own_isCells h.keys e; exact hc h1
  · obtain ⟨cur, h1, _⟩ := own_isCells h.items e; exact hc h1

/-- only the blocks of X, and new ones, have turned -/
structure Far (X : Nat → Prop) (W W' : World) : Prop where
  os : W'.os = W.os
  tape : W'.tape = W.tape
  output : W'.output = W.output
  size : W.heap.size ≤ W'.heap.size
  block : ∀ b, b < W.heap.size → ¬ X b → W'.heap[b]? = W.heap[b]?
theorem Far.trans {X : Nat → Prop} {A B C : World} (h : Far X A B) (k : Far X B C) : Far X A C :=
  ⟨k.os.trans h.os, k.tape.trans h.tape, k.output.trans h.output, Nat.le_trans h.size k.size, fun b hb hx => (k.block b (Nat.lt_of_lt_of_le hb h.size) hx).trans (h.block b hb hx)⟩
theorem Far.of_below {X : Nat → Prop} {A B : World} (h : Below A.heap.size A B) : Far X A B := ⟨h.os, h.tape, h.output, h.size, fun b hb _ => h.block b hb⟩
theorem Far.of_grown {X : Nat → Prop} {A B : World} {row : Option Nat} (h : A.grownBy B row) (hr : ∀ g, row = some g → X g) : Far X A B := ⟨h.os, h.tape, h.output, h.size, fun b hb hx => h.block b hb (fun e => hx (hr b e.symm))⟩
theorem Far.set {X : Nat → Prop} {A : World} {p : Addr} (v : Value) (hx : X p.block) : Far X A (A.setCell p v) := ⟨rfl, rfl, rfl, by simp, fun b _ hb => Below.heap_setCell _ _ _ _ (fun e => hb (e ▸ hx))⟩
theorem Far.drewR {X : Nat → Prop} {A B : World} (h : Far X A B) : Far X A B.drew := ⟨h.os, h.tape, h.output, h.size, h.block⟩

/-- what a round keeps, seen from outside -/
theorem kpG_far {w W W' : World} {B : Nat} {ky : Nat → ByteArray} {c : Nat → Fin 5 → Value} {lk li lk' li' : List Nat} {vi vk vi' vk' : Value} {X : Nat → Prop} (hB : w.heap.size ≤ B) (h : GaS w B ky c lk li vi vk W) (h' : GaS w B ky c lk' li' vi' vk' W')
    (hf : Far X W W') (hX : ∀ b, b < W.heap.size → X b → b = B ∨ vi.ownBlock = some b ∨ vk.ownBlock = some b) (hvi : ∀ g, vi'.ownBlock = some g → vi.ownBlock = some g ∨ W.heap.size ≤ g) (hvk : ∀ g, vk'.ownBlock = some g → vk.ownBlock = some g ∨ W.heap.size ≤ g) :
    KpG w.heap.size B W W' ∧ ∀ m, KeepsFrom m W W' := by
  have c3 : W.cell? ⟨B, 3, none⟩ = some vi := cell_of_row _ _ 3 _ _ _ h.out
  have c4 : W.cell? ⟨B, 4, none⟩ = some vk := cell_of_row _ _ 4 _ _ _ h.out
  have d3 : W'.cell? ⟨B, 3, none⟩ = some vi' := cell_of_row _ _ 3 _ _ _ h'.out
  have d4 : W'.cell? ⟨B, 4, none⟩ = some vk' := cell_of_row _ _ 4 _ _ _ h'.out
  have ci : ∀ b, vi.ownBlock = some b → ∃ cur, W.heap[b]? = some (.cells cur 25 (0, 0)) ∧ w.heap.size + 2 ≤ b := fun b e => own_isCells h.items e
  have ck : ∀ b, vk.ownBlock = some b → ∃ cur, W.heap[b]? = some (.cells cur 9 (0, 0)) ∧ w.heap.size + 2 ≤ b := fun b e => own_isCells h.keys e
  refine ⟨⟨⟨hf.os, hf.tape, hf.output, hf.size, fun b hb => ?_⟩, fun b o hb hr ho hc => ?_, fun b hb => ?_⟩, fun m => ⟨hf.size, fun k o _ ho hc => ?_⟩⟩
  · have hbs := h.below.size
    refine hf.block b (by omega) (fun hx => ?_)
    rcases hX b (by omega) hx with rfl | e | e
    · omega
    · obtain ⟨_, _, h2⟩ := ci b e; omega
    · obtain ⟨_, _, h2⟩ := ck b e; omega
  · have hl := (Array.getElem?_eq_some_iff.1 ho).1
    rw [hf.block b hl (fun hx => ?_)]
    · exact ho
    · rcases hX b hl hx with e | e | e
      · exact hb e
      · exact hr ⟨vi, .inl c3, e⟩
      · exact hr ⟨vk, .inr c4, e⟩
  · obtain ⟨v, hv | hv, e⟩ := hb
    · rw [d3] at hv; cases hv
      rcases hvi b e with e2 | e2
      · exact .inl ⟨vi, .inl c3, e2⟩
      · exact .inr e2
    · rw [d4] at hv; cases hv
      rcases hvk b e with e2 | e2
      · exact .inl ⟨vk, .inr c4, e2⟩
      · exact .inr e2
  · have hl := (Array.getElem?_eq_some_iff.1 ho).1
    rw [hf.block k hl (fun hx => ?_)]
    · exact ho
    · rcases hX k hl hx with rfl | e | e
      · rw [h.out] at ho; cases ho; cases hc
      · obtain ⟨_, h1, _⟩ := ci k e; rw [h1] at ho; cases ho; cases hc
      · obtain ⟨_, h1, _⟩ := ck k e; rw [h1] at ho; cases ho; cases hc

theorem set_take {l : List Value} {n i : Nat} {v : Value} : (l.set i v).take n = (l.take n).set i v := by
  rw [List.take_set]
/-- the last element of a row laid anew -/
theorem own_last {w : World} {base g n cap : Nat} {xs : List Value} {z0 z1 z2 z3 z4 : Value} (y0 y1 y2 y3 y4 : Value) (h : w.ownsRow base 25 5 (.slice (some ⟨g, 0, none⟩) (n + 1) cap) (n + 1) (xs ++ [z0, z1, z2, z3, z4])) (hx : xs.length = n * 5) :
    (((((w.setCell ⟨g, n * 5, none⟩ y0).setCell ⟨g, n * 5 + 1, none⟩ y1).setCell ⟨g, n * 5 + 2, none⟩ y2).setCell ⟨g, n * 5 + 3, none⟩ y3).setCell ⟨g, n * 5 + 4, none⟩ y4).ownsRow base 25 5 (.slice (some ⟨g, 0, none⟩) (n + 1) cap) (n + 1) (xs ++ [y0, y1, y2, y3, y4]) := by
  rcases h.2 with ⟨e, _⟩ | ⟨g', cap', cur, e, h1, h2, h3, h4, h5, h6⟩
  · cases e
  · simp only [Value.slice.injEq, Option.some.injEq, Addr.mk.injEq] at e
    obtain ⟨⟨rfl, _, _⟩, _, rfl⟩ := e
    have st : ∀ (u : World) (cs : Array Value) (i : Nat) (v : Value), u.heap[g]? = some (.cells cs 25 (0, 0)) → (u.setCell ⟨g, i, none⟩ v).heap[g]? = some (.cells (cs.setIfInBounds i v) 25 (0, 0)) := fun u cs i v hu => by
      show (u.heap.modify g _)[g]? = _
      rw [Array.getElem?_modify, if_pos rfl, hu]; rfl
    refine ⟨by simp [hx]; omega, .inr ⟨g, cap, ((((cur.setIfInBounds (n * 5) y0).setIfInBounds (n * 5 + 1) y1).setIfInBounds (n * 5 + 2) y2).setIfInBounds (n * 5 + 3) y3).setIfInBounds (n * 5 + 4) y4, rfl, h1, st _ _ _ _ (st _ _ _ _ (st _ _ _ _ (st _ _ _ _ (st _ _ _ _ h2)))), h3, h4, by simpa using h5, ?_⟩⟩
    simp only [Array.toList_setIfInBounds, set_take, h6]
    rw [← hx]
    simp [List.set_append]
end Go.Proofs.Ytbaknnpjbokilaa
namespace Go.Proofs.Ytbaknnpjbokilaa
open Go.RowKit Go.Maps Go.Sort Go.Shelf
set_option linter.unusedVariables false
set_option linter.unusedSimpArgs false
attribute [local go_sem] Oper.semAt_some

/-- append, as one word -/
def appOpV (ts : Array TypeId) (ty : TypeId) (args : Array Value) := Builtin.append_ ts ty args
theorem appOpV_eq (ts : Array TypeId) (ty : TypeId) (args : Array Value) : Builtin.append_ ts ty args = appOpV ts ty args := rfl
theorem own_shapeV {w : World} {base : Nat} {e : TypeId} {size : Nat} {v : Value} {n : Nat} {xs : List Value} (h : w.ownsRow base e size v n xs) : ∃ so sc, v = .slice so n sc := by
  rcases h.2 with ⟨e, h0⟩ | ⟨g, cap, cur, e, _⟩
  · exact ⟨none, 0, by rw [e, h0]⟩
  · exact ⟨_, _, e⟩
theorem own_succV {w : World} {base : Nat} {e : TypeId} {size : Nat} {v : Value} {n : Nat} {xs : List Value} (h : w.ownsRow base e size v (n + 1) xs) : ∃ g cap, v = .slice (some ⟨g, 0, none⟩) (n + 1) cap := by
  rcases h.2 with ⟨e, h0⟩ | ⟨g, cap, cur, e, _⟩
  · omega
  · exact ⟨_, _, e⟩

theorem setCell_comm (w : World) (p q : Addr) (a b : Value) (h : p.block ≠ q.block) : (w.setCell p a).setCell q b = (w.setCell q b).setCell p a := by
  unfold World.setCell
  congr 1
  apply Array.ext_getElem?
  intro i
  simp only [Array.getElem?_modify]
  by_cases h1 : p.block = i
  · have h2 : q.block ≠ i := fun e => h (h1.trans e.symm)
    simp [h1, h2]
  · simp [h1]
theorem setCell_comm5 (w : World) (B g : Nat) (hne : B ≠ g) (i0 i1 i2 i3 i4 : Nat) (v a0 a1 a2 a3 a4 : Value) :
    (((((w.setCell ⟨B, 3, none⟩ v).setCell ⟨g, i0, none⟩ a0).setCell ⟨g, i1, none⟩ a1).setCell ⟨g, i2, none⟩ a2).setCell ⟨g, i3, none⟩ a3).setCell ⟨g, i4, none⟩ a4 =
    (((((w.setCell ⟨g, i0, none⟩ a0).setCell ⟨g, i1, none⟩ a1).setCell ⟨g, i2, none⟩ a2).setCell ⟨g, i3, none⟩ a3).setCell ⟨g, i4, none⟩ a4).setCell ⟨B, 3, none⟩ v := by
  rw [setCell_comm w ⟨B, 3, none⟩ ⟨g, i0, none⟩ _ _ hne, setCell_comm _ ⟨B, 3, none⟩ ⟨g, i1, none⟩ _ _ hne, setCell_comm _ ⟨B, 3, none⟩ ⟨g, i2, none⟩ _ _ hne, setCell_comm _ ⟨B, 3, none⟩ ⟨g, i3, none⟩ _ _ hne, setCell_comm _ ⟨B, 3, none⟩ ⟨g, i4, none⟩ _ _ hne]

/-- the keys' half of a round -/
theorem GaS.keysUp {w W w4 : World} {B : Nat} {ky : Nat → ByteArray} {c : Nat → Fin 5 → Value} {l : List Nat} {x : Nat} {vi vk vk' : Value} {o : Obj} (hB : B = w.heap.size + 1) (h : GaS w B ky c l l vi vk W) (hg : (W.alloc o).grownBy w4 vk.ownBlock) (hown : w4.ownsRow (w.heap.size + 2) 9 1 vk' (l.length + 1) (kyL ky l ++ [.string (ky x)]))
    (hat : vk'.ownBlock = vk.ownBlock ∨ vk'.ownBlock = some (W.heap.size + 1)) :
    GaS w B ky c (l ++ [x]) l vi vk' (w4.setCell ⟨B, 4, none⟩ vk') ∧ Far (fun b => b = B ∨ vk.ownBlock = some b) W (w4.setCell ⟨B, 4, none⟩ vk') ∧ w4.heap[B]? = some (.cells #[.int .i64 6, .string ⟨#[]⟩, .string ⟨#[]⟩, vi, vk] 25 (0, 0)) := by
  have hlt := (Array.getElem?_eq_some_iff.1 h.out).1
  have nk : ∀ b cs, W.heap[b]? = some (.cells cs 25 (0, 0)) → some b ≠ vk.ownBlock := fun b cs hb e => by
    obtain ⟨cur, h1, _⟩ := own_isCells h.keys e.symm
    rw [h1] at hb
    simp at hb
  have old : ∀ b, b < W.heap.size → some b ≠ vk.ownBlock → w4.heap[b]? = W.heap[b]? := fun b hb hne => (hg.block b (by simp; omega) hne).trans (Below.heap_alloc _ _ b hb)
  have o4 : w4.heap[B]? = some (.cells #[.int .i64 6, .string ⟨#[]⟩, .string ⟨#[]⟩, vi, vk] 25 (0, 0)) := (old B hlt (nk B _ h.out)).trans h.out
  have oth : ∀ b, b ≠ B → (w4.setCell ⟨B, 4, none⟩ vk').heap[b]? = w4.heap[b]? := fun b hb => Below.heap_setCell _ _ _ _ hb
  have hbz := h.below.size
  refine ⟨⟨?_, ?_, ?_, ?_, ?_⟩, ?_, o4⟩
  · exact ((h.below.alloc hbz o).grown hg (by simp; omega) (fun r e => by obtain ⟨_, _, h2⟩ := own_isCells h.keys e; omega)).setCell (p := ⟨B, 4, none⟩) (by show _ ≤ B; omega) _
  · rw [oth _ (by omega), old _ (by omega) (nk _ _ h.res)]; exact h.res
  · exact setCell_box4 _ _ _ _ _ _ _ _ _ o4
  · rw [kyL_snoc, List.length_append]
    refine own_blk hown fun g e => oth g (fun e2 => ?_)
    subst e2
    obtain ⟨cur, h1, _⟩ := own_isCells hown e
    rw [o4] at h1; simp at h1
  · refine own_blk h.items fun g e => ?_
    obtain ⟨cur, h1, _⟩ := own_isCells h.items e
    have hne : g ≠ B := by obtain ⟨_, _, h2⟩ := own_isCells h.items e; omega
    rw [oth g hne, old g (Array.getElem?_eq_some_iff.1 h1).1 (nk g _ h1)]
  · exact ((Far.of_below (below1 W o)).trans (Far.of_grown hg (fun g e => .inr e))).trans (Far.set _ (.inl rfl))
theorem Far.mono {X Y : Nat → Prop} {A B : World} (h : Far X A B) (hxy : ∀ b, X b → Y b) : Far Y A B := ⟨h.os, h.tape, h.output, h.size, fun b hb hy => h.block b hb (fun hx => hy (hxy b hx))⟩

/-- the items' half -/
theorem GaS.itemsUp {w W w6 W8 : World} {B g cap : Nat} {ky : Nat → ByteArray} {c : Nat → Fin 5 → Value} {l : List Nat} {x : Nat} {vi vk : Value} {o : Obj} (hB : B = w.heap.size + 1) (h : GaS w B ky c (l ++ [x]) l vi vk W) (hg : (W.alloc o).grownBy w6 vi.ownBlock)
    (hown : w6.ownsRow (w.heap.size + 2) 25 5 (.slice (some ⟨g, 0, none⟩) (l.length + 1) cap) (l.length + 1) (flL c l ++ [.int .i64 0, .string ⟨#[]⟩, .string ⟨#[]⟩, .slice none 0 0, .slice none 0 0]))
    (hat : vi.ownBlock = some g ∨ W.heap.size + 1 = g)
    (h8 : W8 = ((((((w6.setCell ⟨g, l.length * 5, none⟩ (c x 0)).setCell ⟨g, l.length * 5 + 1, none⟩ (c x 1)).setCell ⟨g, l.length * 5 + 2, none⟩ (c x 2)).setCell ⟨g, l.length * 5 + 3, none⟩ (c x 3)).setCell ⟨g, l.length * 5 + 4, none⟩ (c x 4)).setCell ⟨B, 3, none⟩ (.slice (some ⟨g, 0, none⟩) (l.length + 1) cap))) :
    GaS w B ky c (l ++ [x]) (l ++ [x]) (.slice (some ⟨g, 0, none⟩) (l.length + 1) cap) vk W8 ∧ Far (fun b => b = B ∨ vi.ownBlock = some b ∨ W.heap.size ≤ b) W W8 ∧ w6.heap[B]? = some (.cells #[.int .i64 6, .string ⟨#[]⟩, .string ⟨#[]⟩, vi, vk] 25 (0, 0)) := by
  have hlt := (Array.getElem?_eq_some_iff.1 h.out).1
  have hbz := h.below.size
  have nB : some B ≠ vi.ownBlock := fun e => by obtain ⟨_, _, h2⟩ := own_isCells h.items e.symm; omega
  have nR : some w.heap.size ≠ vi.ownBlock := fun e => by obtain ⟨_, _, h2⟩ := own_isCells h.items e.symm; omega
  have old : ∀ b, b < W.heap.size → some b ≠ vi.ownBlock → w6.heap[b]? = W.heap[b]? := fun b hb hne => (hg.block b (by simp; omega) hne).trans (Below.heap_alloc _ _ b hb)
  have o6 : w6.heap[B]? = some (.cells #[.int .i64 6, .string ⟨#[]⟩, .string ⟨#[]⟩, vi, vk] 25 (0, 0)) := (old B hlt nB).trans h.out
  have hgB : g ≠ B := by
    rcases hat with e | e
    · obtain ⟨_, _, h2⟩ := own_isCells h.items e; omega
    · omega
  obtain ⟨w7, hw7⟩ : ∃ w7, ((((w6.setCell ⟨g, l.length * 5, none⟩ (c x 0)).setCell ⟨g, l.length * 5 + 1, none⟩ (c x 1)).setCell ⟨g, l.length * 5 + 2, none⟩ (c x 2)).setCell ⟨g, l.length * 5 + 3, none⟩ (c x 3)).setCell ⟨g, l.length * 5 + 4, none⟩ (c x 4) = w7 := ⟨_, rfl⟩
  have own7 : w7.ownsRow (w.heap.size + 2) 25 5 (.slice (some ⟨g, 0, none⟩) (l.length + 1) cap) (l.length + 1) (flL c l ++ [c x 0, c x 1, c x 2, c x 3, c x 4]) := by
    rw [← hw7]
    exact own_last _ _ _ _ _ hown h.items.1
  have oth7 : ∀ b, b ≠ g → w7.heap[b]? = w6.heap[b]? := fun b hb => by
    rw [← hw7, Below.heap_setCell _ _ _ _ hb, Below.heap_setCell _ _ _ _ hb, Below.heap_setCell _ _ _ _ hb, Below.heap_setCell _ _ _ _ hb, Below.heap_setCell _ _ _ _ hb]
  rw [hw7] at h8
  have oth8 : ∀ b, b ≠ B → W8.heap[b]? = w7.heap[b]? := fun b hb => by rw [h8]; exact Below.heap_setCell _ _ _ _ hb
  have far6 : Far (fun b => b = B ∨ vi.ownBlock = some b ∨ W.heap.size ≤ b) W w6 := (Far.of_below (below1 W o)).trans (Far.of_grown hg (fun g e => .inr (.inl e)))
  have sz7 : w7.heap.size = w6.heap.size := by rw [← hw7]; simp
  have sz8 : W8.heap.size = w6.heap.size := by rw [h8, ← sz7]; simp
  have hgX : g = B ∨ vi.ownBlock = some g ∨ W.heap.size ≤ g := by
    rcases hat with e | e
    · exact .inr (.inl e)
    · exact .inr (.inr (by omega))
  have far8 : Far (fun b => b = B ∨ vi.ownBlock = some b ∨ W.heap.size ≤ b) W W8 := by
    rw [h8, ← hw7]
    exact (((((far6.trans (Far.set _ hgX)).trans (Far.set _ hgX)).trans (Far.set _ hgX)).trans (Far.set _ hgX)).trans (Far.set _ hgX)).trans (Far.set _ (.inl rfl))
  refine ⟨⟨⟨far8.os.trans h.below.os, far8.tape.trans h.below.tape, far8.output.trans h.below.output, Nat.le_trans hbz far8.size, fun b hb => ?_⟩, ?_, ?_, ?_, ?_⟩, far8, o6⟩
  · rw [far8.block b (by omega) (fun e => ?_)]
    · exact h.below.block b hb
    · rcases e with e | e | e
      · omega
      · obtain ⟨_, _, h2⟩ := own_isCells h.items e; omega
      · omega
  · rw [far8.block _ (by omega) (fun e => ?_)]
    · exact h.res
    · rcases e with e | e | e
      · omega
      · exact nR e.symm
      · omega
  · rw [h8]
    exact setCell_box _ _ _ _ _ _ _ _ _ ((oth7 B (fun e => hgB e.symm)).trans o6)
  · refine own_blk h.keys fun b e => ?_
    obtain ⟨cur, h1, h2⟩ := own_isCells h.keys e
    have hbl := (Array.getElem?_eq_some_iff.1 h1).1
    rw [far8.block b hbl (fun e2 => ?_)]
    rcases e2 with e2 | e2 | e2
    · omega
    · obtain ⟨cur2, h3, _⟩ := own_isCells h.items e2
      rw [h1] at h3; simp at h3
    · omega
  · rw [flL_snoc, List.length_append]
    refine own_blk own7 fun b e => oth8 b (fun e2 => ?_)
    simp [Value.ownBlock] at e
    exact hgB (e.trans e2)
end Go.Proofs.Ytbaknnpjbokilaa
namespace Go.Proofs.Ytbaknnpjbokilaa
open Go.RowKit Go.Maps Go.Sort Go.Shelf
set_option linter.unusedVariables false
set_option linter.unusedSimpArgs false
attribute [local go_sem] Oper.semAt_some
attribute [local go_sem ↓] appOpV_eq

/-- what gathered hands back -/
structure GaR (w w' : World) (ky : Nat → ByteArray) (c : Nat → Fin 5 → Value) (M : Nat) (vi vk : Value) : Prop where
  below : Below w.heap.size w w'
  keys : w'.ownsRow w.heap.size 9 1 vk M (kyL ky (List.range M))
  items : w'.ownsRow w.heap.size 25 5 vi M (flL c (List.range M))

set_option maxRecDepth 100000 in
set_option maxHeartbeats 6400000 in
theorem w_gathered (gf : Nat) (lb : Array Value) (M : Nat) (ky : Nat → ByteArray) (c : Nat → Fin 5 → Value) (w : World) (hone : ∀ i, i < M → OneC (c i)) (hM : M ≤ 100000)
    (eg : ∀ args w, (callFunc gf args).run Try.prog w = .ok (.enter gf args) w)
    (hseq : ∀ W, Below w.heap.size w W → (∀ b, ¬ rwAt W (w.heap.size + 1) b) → w.heap.size + 1 < W.heap.size → SeqStopsK Fence.wide 6 Try.prog gf lb (fun x : { i : Nat // i < M } => encK ky c x.1) (KpG w.heap.size (w.heap.size + 1)) (fun xs => xs.map (·.1) = List.range M) (fun _ => True) M W) :
    Calls Try.prog 22 #[.func (.func gf) #[] lb] w fun e w' => ∃ io ic ko kc, e = .returned (.agg #[.int .i64 6, .string ⟨#[]⟩, .string ⟨#[]⟩, .slice io M ic, .slice ko M kc]) ∧ Hid (GaR w w' ky c M (.slice io M ic) (.slice ko M kc)) := by
  obtain ⟨i0, hi0, hz0, hz1, hz2⟩ := info_parts Try.infoV
  obtain ⟨j0, hj0, hy0, hy1, hy2⟩ := info_parts Try.infoSt
  have HO := Hid.mk hone
  have HSq := Hid.mk hseq
  clear hone hseq
  refine (callsIn_wide (n := 7)).1 ?_
  refine callsIn_of_wp_marks Try.func22 rfl trivial ?_ rfl
  simp only [Try.ntmps22, List.size_toArray, List.length_cons, List.length_nil, Nat.reduceAdd, Nat.reduceSub, Array.replicate_succ, Array.replicate_zero, List.push_toArray, List.append_toArray, List.nil_append, List.cons_append]
  gi_wp2_with fail
  obtain ⟨W0, hW0⟩ : ∃ W0, ((w.alloc (.cells #[.int .i64 0, .string ⟨#[]⟩, .string ⟨#[]⟩, .slice none 0 0, .slice none 0 0] 25)).alloc (.cells #[.int .i64 6, .string ⟨#[]⟩, .string ⟨#[]⟩, .slice none 0 0, .slice none 0 0] 25)) = W0 := ⟨_, rfl⟩
  have hsz0 : W0.heap.size = w.heap.size + 2 := by rw [← hW0]; simp
  have hb0 : Below w.heap.size w W0 := by rw [← hW0]; exact below2 w _ _
  have hG0 : GaS w (w.heap.size + 1) ky c [] [] (.slice none 0 0) (.slice none 0 0) W0 := by
    refine ⟨hb0, ?_, ?_, World.ownsRow_nil _ _ _ _, World.ownsRow_nil _ _ _ _⟩
    · rw [← hW0, Below.heap_alloc _ _ _ (by simp), heap_alloc_new]
    · rw [← hW0, show w.heap.size + 1 = (w.alloc (.cells #[.int .i64 0, .string ⟨#[]⟩, .string ⟨#[]⟩, .slice none 0 0, .slice none 0 0] 25)).heap.size from by simp, heap_alloc_new]
  have hrw0 : ∀ b, ¬ rwAt W0 (w.heap.size + 1) b := by
    rintro b ⟨v, hv | hv, e⟩
    · rw [cell_of_row _ _ 3 _ _ _ hG0.out] at hv; cases hv; cases e
    · rw [cell_of_row _ _ 4 _ _ _ hG0.out] at hv; cases hv; cases e
  have HI0 : Hid (GaI w ky c ([] : List { i : Nat // i < M }) W0) := ⟨_, _, hG0⟩
  have HS0 := Hid.mk (HSq.out W0 hb0 hrw0 (by omega))
  rw [hW0]
  clear hW0 hG0 hrw0 hb0 HSq
  refine wpIn_rangeFunc_ownH rfl (by omega) (gf := gf) (lb := lb) rfl trivial eg
    HS0.out (fun h k => h.trans k) (KpG.put (by omega) (by omega)) (Below.refl _ _) (fun _ => rfl)
    (GaI w ky c) (fun _ _ _ => False) (GaI.own (by omega)) (fun _ _ _ _ _ hs _ _ => hs) HI0.out
    (fun x a' W => ∃ Bx, Bx ≠ w.heap.size + 1 ∧ IBox W Bx (c x.1) ∧ a' = { tmps := #[.func (.func gf) #[] lb, undef, .pointer (some ⟨w.heap.size, 0, none⟩), .pointer (some ⟨w.heap.size + 1, 0, none⟩), .string (ky x.1), .pointer (some ⟨Bx, 0, none⟩), .agg #[.int .i64 6, .string ⟨#[]⟩, .string ⟨#[]⟩, .slice none 0 0, .slice none 0 0], .func (.func gf) #[] lb, .string (ky x.1), .agg #[c x.1 0, c x.1 1, c x.1 2, c x.1 3, c x.1 4], undef, undef, undef, undef, undef, undef, undef, undef, undef, undef, undef, undef, undef, undef, undef], defers := [] })
    (fun x a' _ X Y row hs hg hr => by
      obtain ⟨Bx, h1, h2, h3⟩ := hs
      exact ⟨Bx, h1, ibox_own _ Bx (c x.1) () X Y row h2 hg hr, h3⟩)
    ?assign ?body ?done ?stop
  case assign =>
    rintro l pre x W KK hI hKK
    obtain ⟨ik, inm, itx, iio, iN, iicap, iko, iK, ikcap, o0, o1, o2, o3, o4⟩ := HO.out x.1 x.2
    have hIb : IBox (W.alloc (.cells #[c x.1 0, c x.1 1, c x.1 2, c x.1 3, c x.1 4] 25)) W.heap.size (c x.1) := ⟨World.alloc_heap_new W _⟩
    obtain ⟨vi, vk, hG⟩ := hI
    have hBl := (Array.getElem?_eq_some_iff.1 hG.out).1
    have hI2 : GaI w ky c pre (W.alloc (.cells #[c x.1 0, c x.1 1, c x.1 2, c x.1 3, c x.1 4] 25)) := (GaI.own (C := w.heap.size) (Nat.le_refl _)) pre W _ none ⟨vi, vk, hG⟩ ⟨rfl, rfl, rfl, by simp, fun b hb _ => Below.heap_alloc _ _ b hb⟩ (fun r e => by cases e)
    unfold encK
    dsimp only
    have FIN := hKK { tmps := #[.func (.func gf) #[] lb, undef, .pointer (some ⟨w.heap.size, 0, none⟩), .pointer (some ⟨w.heap.size + 1, 0, none⟩), .string (ky x.1), .pointer (some ⟨W.heap.size, 0, none⟩), .agg #[.int .i64 6, .string ⟨#[]⟩, .string ⟨#[]⟩, .slice none 0 0, .slice none 0 0], .func (.func gf) #[] lb, .string (ky x.1), .agg #[c x.1 0, c x.1 1, c x.1 2, c x.1 3, c x.1 4], undef, undef, undef, undef, undef, undef, undef, undef, undef, undef, undef, undef, undef, undef, undef], defers := [] } _ ((KeepsOthers.alloc _ _).from _) (KpG.of_below hG.below.size hBl (below1 W _)) hI2 ⟨W.heap.size, by omega, hIb, rfl⟩
    rw [o0, o1, o2, o3, o4] at FIN ⊢
    clear hKK hIb hI2 hG
    gi_wp2_with fail
    exact FIN
  case body =>
    rintro l pre x a' W hl ⟨r, hr⟩ ⟨vi, vk, hG⟩ ⟨Bx, hBx, bX, rfl⟩ hlt
    obtain ⟨c0, c1, c2, c3, c4⟩ := bX.cell
    obtain ⟨ik, inm, itx, iio, iN, iicap, iko, iK, ikcap, o0, o1, o2, o3, o4⟩ := HO.out x.1 x.2
    obtain ⟨ko0, kc0, hvk⟩ := own_shapeV hG.keys
    obtain ⟨io0, ic0, hvi⟩ := own_shapeV hG.items
    rw [o0] at c0; rw [o1] at c1; rw [o2] at c2; rw [o3] at c3; rw [o4] at c4
    have hpl : (pre.map (·.1)).length < M := by rw [List.length_map]; exact hlt
    have hbW := hG.below.size
    have hBl := (Array.getElem?_eq_some_iff.1 hG.out).1
    obtain ⟨L, hL⟩ : ∃ L, L = pre.map (·.1) := ⟨_, rfl⟩
    have HL : Hid ((pre ++ [x]).map (·.1) = L ++ [x.1]) := by show _ = _; rw [List.map_append, hL]; rfl
    rw [← hL] at hG hpl hvk hvi
    have HG := Hid.mk hG
    have HXX : Hid (W.heap[Bx]? = some (.cells #[.int .i64 ik, .string inm, .string itx, .slice iio iN iicap, .slice iko iK ikcap] 25 (0, 0))) := by
      have := bX.row
      rw [o0, o1, o2, o3, o4] at this
      exact this
    subst hvk hvi
    have k4 := cell_of_row _ _ 4 _ _ _ hG.out
    have hGk := hG.keys
    have OC := Hid.mk (And.intro o0 (And.intro o1 (And.intro o2 (And.intro o3 o4))))
    generalize hLn : L.length = n at *
    have HLn := Hid.mk hLn
    clear hG hL hLn hr bX o0 o1 o2 o3 o4 c0 c1 c2 c3 c4
    gi_wp2_with (gi_at_builtin; refine wpListIn_append_own_at _ (by rfl) _ _ 23 (by rfl) (w.heap.size + 2) 9 j0 (.string ⟨#[]⟩) 1 16 Try.underlying23 hj0 hy0 hy1 hy2 rfl (by decide) _ _ _ (by rfl) (hGk.alloc _) ⟨W.heap.size, 0, none⟩ 1 1 [.string (ky x.1)] (by rfl) (by rfl) (cell_one_new W _ _) (by simp [Value.oneCell']) (by unfold maxLen; omega) (by omega) (by simp; omega) ?_)
    intro vk' w4 hown4 hgrow4 hnil4 hat4
    obtain ⟨gk, ck, hvk'⟩ := own_succV hown4
    subst hvk'
    obtain ⟨hG5, hF5, ho4⟩ := GaS.keysUp (x := x.1) rfl HG.out hgrow4 (by rw [HLn.out]; exact hown4) (by simpa using hat4)
    obtain ⟨W5, hW5⟩ : ∃ W5, w4.setCell ⟨w.heap.size + 1, 4, none⟩ (.slice (some ⟨gk, 0, none⟩) (n + 1) ck) = W5 := ⟨_, rfl⟩
    have b4 := cell_of_row _ _ 4 _ _ _ ho4
    have f4 := frozen_row (j := 4) ho4
    have HW5 := Hid.mk hW5
    rw [hW5] at hG5 hF5
    have HG5 := Hid.mk hG5
    have HF5 := Hid.mk hF5
    have hxb : W5.heap[Bx]? = some (.cells #[.int .i64 ik, .string inm, .string itx, .slice iio iN iicap, .slice iko iK ikcap] 25 (0, 0)) := by
      refine (hF5.block Bx (Array.getElem?_eq_some_iff.1 HXX.out).1 ?_).trans HXX.out
      rintro (e | e)
      · exact hBx e
      · obtain ⟨cur, h1, _⟩ := own_isCells hGk e
        rw [HXX.out] at h1; simp at h1
    have hxl := (Array.getElem?_eq_some_iff.1 hxb).1
    have x0 := cell_of_row _ _ 0 _ _ _ hxb
    have x1 := cell_of_row _ _ 1 _ _ _ hxb
    have x2 := cell_of_row _ _ 2 _ _ _ hxb
    have x3 := cell_of_row _ _ 3 _ _ _ hxb
    have x4 := cell_of_row _ _ 4 _ _ _ hxb
    have m3 := cell_of_row _ _ 3 _ _ _ hG5.out
    have hB5 := (Array.getElem?_eq_some_iff.1 hG5.out).1
    have xa : ∀ j v o, W5.cell? ⟨Bx, j, none⟩ = some v → (W5.alloc o).cell? ⟨Bx, j, none⟩ = some v := fun j v o e => ((below1 W5 o).cell (p := ⟨_, _, _⟩) hxl).trans e
    have y0 := fun o => xa 0 _ o x0
    have y1 := fun o => xa 1 _ o x1
    have y2 := fun o => xa 2 _ o x2
    have y3 := fun o => xa 3 _ o x3
    have y4 := fun o => xa 4 _ o x4
    have m3a : ∀ o, (W5.alloc o).cell? ⟨w.heap.size + 1, 3, none⟩ = some (.slice io0 n ic0) := fun o => ((below1 W5 o).cell (p := ⟨_, _, _⟩) hB5).trans m3
    have hb5 := hG5.below.size
    have hit := hG5.items
    rw [HLn.out] at hit
    obtain ⟨v', w6, hrun, hown6, hgrow6, hnil6, hat6⟩ := run_append_own_at (P := Try.prog) (W5.drew.alloc (.cells #[.int .i64 0, .string ⟨#[]⟩, .string ⟨#[]⟩, .slice none 0 0, .slice none 0 0] 25)) (w.heap.size + 2) 22 22 25 i0 (.agg #[.int .i64 0, .string ⟨#[]⟩, .string ⟨#[]⟩, .slice none 0 0, .slice none 0 0]) 5 88 Try.underlying22 hi0 hz0 hz1 hz2 rfl (by decide) (.slice io0 n ic0) n (flL c L) (World.ownsRow.alloc (w := W5.drew) hit _) ⟨W5.heap.size, 0, none⟩ 1 1 [.int .i64 0, .string ⟨#[]⟩, .string ⟨#[]⟩, .slice none 0 0, .slice none 0 0] rfl (new5 (heap_alloc_new W5.drew _)) (by intro u hu; simp at hu; rcases hu with rfl | rfl | rfl | rfl | rfl <;> rfl) (by unfold maxLen; omega) (by omega) (by show w.heap.size + 2 ≤ (W5.drew.alloc _).heap.size; rw [World.size_alloc]; show w.heap.size + 2 ≤ W5.heap.size + 1; omega)
    obtain ⟨g', cap', hv'⟩ := own_succV hown6
    subst hv'
    have hat6' : (Value.slice io0 n ic0).ownBlock = some g' ∨ W5.heap.size + 1 = g' := by
      rcases hat6 with e | e
      · exact .inl e.symm
      · right
        have e2 : some g' = some ((W5.drew.alloc (.cells #[.int .i64 0, .string ⟨#[]⟩, .string ⟨#[]⟩, .slice none 0 0, .slice none 0 0] 25)).heap.size) := e
        have e3 := Option.some.inj e2
        rw [World.size_alloc] at e3
        exact e3.symm
    obtain ⟨W8, hW8⟩ : ∃ W8, (((((w6.setCell ⟨g', n * 5, none⟩ (c x.1 0)).setCell ⟨g', n * 5 + 1, none⟩ (c x.1 1)).setCell ⟨g', n * 5 + 2, none⟩ (c x.1 2)).setCell ⟨g', n * 5 + 3, none⟩ (c x.1 3)).setCell ⟨g', n * 5 + 4, none⟩ (c x.1 4)).setCell ⟨w.heap.size + 1, 3, none⟩ (.slice (some ⟨g', 0, none⟩) (n + 1) cap') = W8 := ⟨_, rfl⟩
    obtain ⟨hG8, hF8, ho6⟩ := GaS.itemsUp (W8 := W8) (o := .cells #[.int .i64 0, .string ⟨#[]⟩, .string ⟨#[]⟩, .slice none 0 0, .slice none 0 0] 25) (g := g') (cap := cap') rfl hG5 ⟨hgrow6.os, hgrow6.tape, hgrow6.output, hgrow6.size, hgrow6.block⟩ (by rw [HLn.out]; exact hown6) hat6' (by rw [HLn.out]; exact hW8.symm)
    have FIN : Hid (KeepsFrom W0.heap.size W W8 ∧ KpG w.heap.size (w.heap.size + 1) W W8 ∧ GaI w ky c (pre ++ [x]) W8) := by
      have hfar : Far (fun b => b = w.heap.size + 1 ∨ (Value.slice io0 n ic0).ownBlock = some b ∨ (Value.slice ko0 n kc0).ownBlock = some b ∨ W.heap.size ≤ b) W W8 := by
        refine (hF5.mono (fun b hb => ?_)).trans (hF8.mono (fun b hb => ?_))
        · rcases hb with h | h
          · exact .inl h
          · exact .inr (.inr (.inl h))
        · rcases hb with h | h | h
          · exact .inl h
          · exact .inr (.inl h)
          · exact .inr (.inr (.inr (Nat.le_trans hF5.size h)))
      obtain ⟨hK, hKF⟩ := kpG_far (X := fun b => b = w.heap.size + 1 ∨ (Value.slice io0 n ic0).ownBlock = some b ∨ (Value.slice ko0 n kc0).ownBlock = some b ∨ W.heap.size ≤ b) (by omega) HG.out hG8 hfar (fun b hb hx => by
          rcases hx with h | h | h | h
          · exact .inl h
          · exact .inr (.inl h)
          · exact .inr (.inr h)
          · omega) (fun g e => by
          have e2 : g = g' := (Option.some.inj e).symm
          subst e2
          rcases hat6' with h | h
          · exact .inl h
          · right; have := hF5.size; omega) (fun g e => by
          rcases hat4 with h | h
          · exact .inl (h.symm.trans e)
          · right
            have e2 := e.symm.trans h
            have e3 := Option.some.inj e2
            (try rw [World.size_alloc] at e3)
            omega)
      exact ⟨hKF _, hK, _, _, by rw [HL.out]; exact hG8⟩
    have z0 : w6.cell? ⟨g', n * 5, none⟩ = some (.int .i64 0) := by
      rw [own_cellAt hown6 (by omega), List.getElem?_append_right (by rw [hit.1]; omega), hit.1]; simp
    have z1 : w6.cell? ⟨g', n * 5 + 1, none⟩ = some (.string ⟨#[]⟩) := by
      rw [own_cellAt hown6 (by omega), List.getElem?_append_right (by rw [hit.1]; omega), hit.1]; simp
    have z2 : w6.cell? ⟨g', n * 5 + 2, none⟩ = some (.string ⟨#[]⟩) := by
      rw [own_cellAt hown6 (by omega), List.getElem?_append_right (by rw [hit.1]; omega), hit.1]; simp
    have z3 : w6.cell? ⟨g', n * 5 + 3, none⟩ = some (.slice none 0 0) := by
      rw [own_cellAt hown6 (by omega), List.getElem?_append_right (by rw [hit.1]; omega), hit.1]; simp
    have z4 : w6.cell? ⟨g', n * 5 + 4, none⟩ = some (.slice none 0 0) := by
      rw [own_cellAt hown6 (by omega), List.getElem?_append_right (by rw [hit.1]; omega), hit.1]; simp
    have zf : ∀ j, w6.frozen? ⟨g', j, none⟩ = false := fun j => by
      obtain ⟨cur, h1, _⟩ := own_isCells hown6 rfl
      exact frozen_row h1
    have q3 := cell_of_row _ _ 3 _ _ _ ho6
    have qf := frozen_row (j := 3) ho6
    have hgB : g' ≠ w.heap.size + 1 := by
      rcases hat6' with h | h
      · obtain ⟨_, _, h2⟩ := own_isCells hit h; omega
      · omega
    have hrun' : (appOpV #[22, 22] 22 #[.slice io0 n ic0, .slice (some ⟨W5.heap.size, 0, none⟩) 1 1]).run Try.prog (W5.alloc (.cells #[.int .i64 0, .string ⟨#[]⟩, .string ⟨#[]⟩, .slice none 0 0, .slice none 0 0] 25)).drew = .ok (.slice (some ⟨g', 0, none⟩) (n + 1) cap') w6 := hrun
    obtain ⟨p0, p1, p2, p3, p4⟩ := OC.out
    rw [p0, p1, p2, p3, p4] at hW8
    have HW8 := Hid.mk hW8
    have hmx : Try.prog.follows .mixedOrders = true := by kernel_rfl
    have hn1 : (n : Int) < (n : Int) + 1 := by omega
    clear hW8 hrun hown6 hgrow6 hnil6 hat6 hat6' hG8 hF8 ho6 hG5 hF5 hown4 hgrow4 hnil4 hat4 ho4 hxb hit hGk p0 p1 p2 p3 p4 xa
    gi_wp2_with fail
    gi_region_with_o fail
    all_goals gi_wp2_with fail
    all_goals first | (rw [HW8.out]; exact FIN.out) | (rw [setCell_comm5 _ _ _ (fun e => hgB e.symm), HW8.out]; exact FIN.out)
  case done =>
    rintro D zs W hD hz ⟨vi, vk, hG⟩ hK
    obtain ⟨ko0, kc0, hvk⟩ := own_shapeV hG.keys
    obtain ⟨io0, ic0, hvi⟩ := own_shapeV hG.items
    have hzz : zs.map (·.1) = List.range M := hz
    rw [hzz] at hG hvk hvi
    rw [List.length_range] at hvk hvi
    subst hvk hvi
    have l0 := cell_of_row _ _ 0 _ _ _ hG.out
    have l1 := cell_of_row _ _ 1 _ _ _ hG.out
    have l2 := cell_of_row _ _ 2 _ _ _ hG.out
    have l3 := cell_of_row _ _ 3 _ _ _ hG.out
    have l4 := cell_of_row _ _ 4 _ _ _ hG.out
    have r0 := cell_of_row _ _ 0 _ _ _ hG.res
    have r1 := cell_of_row _ _ 1 _ _ _ hG.res
    have r2 := cell_of_row _ _ 2 _ _ _ hG.res
    have r3 := cell_of_row _ _ 3 _ _ _ hG.res
    have r4 := cell_of_row _ _ 4 _ _ _ hG.res
    have fr : ∀ j, W.frozen? ⟨w.heap.size, j, none⟩ = false := fun j => frozen_row hG.res
    have HG := Hid.mk hG
    obtain ⟨wz, hwz⟩ : ∃ wz, ((((W.setCell ⟨w.heap.size, 0, none⟩ (.int .i64 6)).setCell ⟨w.heap.size, 1, none⟩ (.string ⟨#[]⟩)).setCell ⟨w.heap.size, 2, none⟩ (.string ⟨#[]⟩)).setCell ⟨w.heap.size, 3, none⟩ (.slice io0 M ic0)).setCell ⟨w.heap.size, 4, none⟩ (.slice ko0 M kc0) = wz := ⟨_, rfl⟩
    obtain ⟨zb, zo, zs', zbl⟩ := set5 W (w.heap.size) _ _ _ _ _ _ _ _ _ _ _ hG.res wz hwz.symm
    have z0 := cell_of_row _ _ 0 _ _ _ zb
    have z1 := cell_of_row _ _ 1 _ _ _ zb
    have z2 := cell_of_row _ _ 2 _ _ _ zb
    have z3 := cell_of_row _ _ 3 _ _ _ zb
    have z4 := cell_of_row _ _ 4 _ _ _ zb
    have hDne : D ≠ w.heap.size := by rintro rfl; rw [hG.res] at hK; cases hK
    have hKz : wz.heap[D]? = some (.deferred (some [])) := (zo D hDne).trans hK
    have FIN : Hid (GaR w (wz.putObj D (.deferred none)) ky c M (.slice io0 M ic0) (.slice ko0 M kc0)) := by
      have ot : ∀ b cs t f, W.heap[b]? = some (.cells cs t f) → b ≠ w.heap.size → (wz.putObj D (.deferred none)).heap[b]? = W.heap[b]? := fun b cs t f hb hne => by
        rw [World.putObj_heap_other (by rintro rfl; rw [hb] at hK; cases hK)]
        exact zo b hne
      have mo : ∀ {e size v n xs}, W.ownsRow (w.heap.size + 2) e size v n xs → (wz.putObj D (.deferred none)).ownsRow w.heap.size e size v n xs := fun {e size v n xs} h => by
        have h1 : W.ownsRow w.heap.size e size v n xs := ⟨h.1, h.2.imp id (fun ⟨g, cap, cur, e1, e2, rest⟩ => ⟨g, cap, cur, e1, by omega, rest⟩)⟩
        refine own_blk h1 fun g hg => ?_
        obtain ⟨cur, h2, h3⟩ := own_isCells h hg
        exact ot g _ _ _ h2 (by omega)
      have hk := mo HG.out.keys
      have hi := mo HG.out.items
      rw [List.length_range] at hk hi
      refine ⟨?_, hk, hi⟩
      exact (HG.out.below.trans (zbl _ (Nat.le_refl _))).trans (belowK_b (w := w) (Nat.le_refl _) wz D _ _ (by omega) hKz rfl rfl)
    clear hG zb zo zbl hzz hz
    gi_wp2_with fail
    refine ⟨by simp, .inl ⟨_, _, rfl, run_takeDeferred hKz, ?_⟩⟩
    have zp : ∀ j v, wz.cell? ⟨w.heap.size, j, none⟩ = some v → (wz.putObj D (.deferred none)).cell? ⟨w.heap.size, j, none⟩ = some v := fun j v e => (World.cell?_of_block (a := ⟨w.heap.size, j, none⟩) (World.putObj_heap_other (fun e => hDne e.symm))).trans e
    have q0 := zp 0 _ z0
    have q1 := zp 1 _ z1
    have q2 := zp 2 _ z2
    have q3 := zp 3 _ z3
    have q4 := zp 4 _ z4
    generalize wz.putObj D (.deferred none) = wq at *
    refine ⟨.agg #[.int .i64 6, .string ⟨#[]⟩, .string ⟨#[]⟩, .slice io0 M ic0, .slice ko0 M kc0], by simp [results, Try.results22, go_sem, q0, q1, q2, q3, q4], ?_⟩
    exact ⟨_, _, _, _, rfl, FIN⟩
  case stop =>
    rintro D cc pre W _ _ h _
    exact h.elim
end Go.Proofs.Ytbaknnpjbokilaa
