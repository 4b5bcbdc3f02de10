import Derived.Test.YtaflpeajapdkdaaM25
import Derived.Test.YtaflpeajapdkdaaM26
import Derived.Maps.AppendAt
import Derived.Laws.EntriesVeiled
namespace Go.Proofs.Ytaflpeajapdkdaa
open Go.RowKit Go.Maps Go.Sort Go.Shelf
set_option linter.unusedVariables false
set_option linter.unusedSimpArgs false

def encK (ky : Nat → ByteArray) (c : Nat → Fin 5 → Value) (i : Nat) : Array Value := #[.string (ky i), .agg #[c i 0, c i 1, c i 2, c i 3, c i 4]]
def kyL (ky : Nat → ByteArray) (l : List Nat) : List Value := l.map fun i => .string (ky i)
def flL (c : Nat → Fin 5 → Value) (l : List Nat) : List Value := l.flatMap fun i => [c i 0, c i 1, c i 2, c i 3, c i 4]
theorem kyL_snoc (ky : Nat → ByteArray) (l : List Nat) (i : Nat) : kyL ky (l ++ [i]) = kyL ky l ++ [.string (ky i)] := by simp [kyL]
theorem flL_snoc (c : Nat → Fin 5 → Value) (l : List Nat) (i : Nat) : flL c (l ++ [i]) = flL c l ++ [c i 0, c i 1, c i 2, c i 3, c i 4] := by simp [flL]

/-- what gathered holds, so many keys and so many items -/
structure GaS (w : World) (B : Nat) (ky : Nat → ByteArray) (c : Nat → Fin 5 → Value) (lk li : List Nat) (vi vk : Value) (W : World) : Prop where
  below : Below w.heap.size w W
  res : W.heap[w.heap.size]? = some (.cells #[.int .i64 0, .string ⟨#[]⟩, .string ⟨#[]⟩, .slice none 0 0, .slice none 0 0] 25 (0, 0))
  out : W.heap[B]? = some (.cells #[.int .i64 6, .string ⟨#[]⟩, .string ⟨#[]⟩, vi, vk] 25 (0, 0))
  keys : W.ownsRow (w.heap.size + 2) 9 1 vk lk.length (kyL ky lk)
  items : W.ownsRow (w.heap.size + 2) 25 5 vi li.length (flL c li)
def GaI (w : World) (ky : Nat → ByteArray) (c : Nat → Fin 5 → Value) {M : Nat} (pre : List { i : Nat // i < M }) (W : World) : Prop := ∃ vi vk, GaS w (w.heap.size + 1) ky c (pre.map (·.1)) (pre.map (·.1)) vi vk W

theorem own_blk {w w' : World} {base : Nat} {e : TypeId} {size : Nat} {v : Value} {n : Nat} {xs : List Value} (h : w.ownsRow base e size v n xs) (hb : ∀ g, v.ownBlock = some g → w'.heap[g]? = w.heap[g]?) : w'.ownsRow base e size v n xs := by
  refine ⟨h.1, h.2.imp id ?_⟩
  rintro ⟨g, cap, cur, rfl, e2, e3, rest⟩
  exact ⟨g, cap, cur, rfl, e2, (hb g rfl).trans e3, rest⟩
theorem own_isCells {w : World} {base : Nat} {e : TypeId} {size : Nat} {v : Value} {n : Nat} {xs : List Value} (h : w.ownsRow base e size v n xs) {g : Nat} (hg : v.ownBlock = some g) : ∃ cur, w.heap[g]? = some (.cells cur e (0, 0)) ∧ base ≤ g := by
  rcases h.2 with ⟨rfl, _⟩ | ⟨g', cap, cur, rfl, e2, e3, _⟩
  · cases hg
  · simp [Value.ownBlock] at hg
    subst hg
    exact ⟨cur, e3, e2⟩

theorem GaI.own {w : World} {ky : Nat → ByteArray} {c : Nat → Fin 5 → Value} {M C : Nat} (hC : w.heap.size ≤ C) : OwnFrom C (GaI (M := M) w ky c) := by
  rintro pre A A' row ⟨vi, vk, h⟩ hg hr
  have hc : ∀ {b : Nat} {cs : Array Value} {t : TypeId} {f : Nat × Nat}, A.heap[b]? = some (.cells cs t f) → A'.heap[b]? = A.heap[b]? := fun {b cs t f} hb =>
    hg.block b (Array.getElem?_eq_some_iff.1 hb).1 (fun e => by
      obtain ⟨_, o, ho, hoc⟩ := hr b e.symm
      rw [hb] at ho; cases ho; cases hoc)
  refine ⟨vi, vk, h.below.grown hg h.below.size (fun r e => Nat.le_trans hC (hr r e).1), (hc h.res).trans h.res, (hc h.out).trans h.out, own_blk h.keys fun g e => ?_, own_blk h.items fun g e => ?_⟩
  · obtain ⟨cur, h1, _⟩ := own_isCells h.keys e; exact hc h1
  · obtain ⟨cur, h1, _⟩ := own_isCells h.items e; exact hc h1

/-- only the blocks of X, and new ones, have turned -/
structure Far (X : Nat → Prop) (W W' : World) : Prop where
  os : W'.os = W.os
  tape : W'.tape = W.tape
  output : W'.output = W.output
  size : W.heap.size ≤ W'.heap.size
  block : ∀ b, b < W.heap.size → ¬ X b → W'.heap[b]? = W.heap[b]?
theorem Far.trans {X : Nat → Prop} {A B C : World} (h : Far X A B) (k : Far X B C) : Far X A C :=
  ⟨k.os.trans h.os, k.tape.trans h.tape, k.output.trans h.output, Nat.le_trans h.size k.size, fun b hb hx => (k.block b (Nat.lt_of_lt_of_le hb h.size) hx).trans (h.block b hb hx)⟩
theorem Far.of_below {X : Nat → Prop} {A B : World} (h : Below A.heap.size A B) : Far X A B := ⟨h.os, h.tape, h.output, h.size, fun b hb _ => h.block b hb⟩
theorem Far.of_grown {X : Nat → Prop} {A B : World} {row : Option Nat} (h : A.grownBy B row) (hr : ∀ g, row = some g → X g) : Far X A B := ⟨h.os, h.tape, h.output, h.size, fun b hb hx => h.block b hb (fun e => hx (hr b e.symm))⟩
theorem Far.set {X : Nat → Prop} {A : World} {p : Addr} (v : Value) (hx : X p.block) : Far X A (A.setCell p v) := ⟨rfl, rfl, rfl, by simp, fun b _ hb => Below.heap_setCell _ _ _ _ (fun e => hb (e ▸ hx))⟩
theorem Far.drewR {X : Nat → Prop} {A B : World} (h : Far X A B) : Far X A B.drew := ⟨h.os, h.tape, h.output, h.size, h.block⟩

/-- what a round keeps, seen from outside -/
theorem kpG_far {w W W' : World} {B : Nat} {ky : Nat → ByteArray} {c : Nat → Fin 5 → Value} {lk li lk' li' : List Nat} {vi vk vi' vk' : Value} {X : Nat → Prop} (hB : w.heap.size ≤ B) (h : GaS w B ky c lk li vi vk W) (h' : GaS w B ky c lk' li' vi' vk' W')
    (hf : Far X W W') (hX : ∀ b, b < W.heap.size → X b → b = B ∨ vi.ownBlock = some b ∨ vk.ownBlock = some b) (hvi : ∀ g, vi'.ownBlock = some g → vi.ownBlock = some g ∨ W.heap.size ≤ g) (hvk : ∀ g, vk'.ownBlock = some g → vk.ownBlock = some g ∨ W.heap.size ≤ g) :
    KpG w.heap.size B W W' ∧ ∀ m, KeepsFrom m W W' := by
  have c3 : W.cell? ⟨B, 3, none⟩ = some vi := cell_of_row _ _ 3 _ _ _ h.out
  have c4 : W.cell? ⟨B, 4, none⟩ = some vk := cell_of_row _ _ 4 _ _ _ h.out
  have d3 : W'.cell? ⟨B, 3, none⟩ = some vi' := cell_of_row _ _ 3 _ _ _ h'.out
  have d4 : W'.cell? ⟨B, 4, none⟩ = some vk' := cell_of_row _ _ 4 _ _ _ h'.out
  have ci : ∀ b, vi.ownBlock = some b → ∃ cur, W.heap[b]? = some (.cells cur 25 (0, 0)) ∧ w.heap.size + 2 ≤ b := fun b e => own_isCells h.items e
  have ck : ∀ b, vk.ownBlock = some b → ∃ cur, W.heap[b]? = some (.cells cur 9 (0, 0)) ∧ w.heap.size + 2 ≤ b := fun b e => own_isCells h.keys e
  refine ⟨⟨⟨hf.os, hf.tape, hf.output, hf.size, fun b hb => ?_⟩, fun b o hb hr ho hc => ?_, fun b hb => ?_⟩, fun m => ⟨hf.size, fun k o _ ho hc => ?_⟩⟩
  · have hbs := h.below.size
    refine hf.block b (by omega) (fun hx => ?_)
    rcases hX b (by omega) hx with rfl | e | e
    · omega
    · obtain ⟨_, _, h2⟩ := ci b e; omega
    · obtain ⟨_, _, h2⟩ := ck b e; omega
  · have hl := (Array.getElem?_eq_some_iff.1 ho).1
    rw [hf.block b hl (fun hx => ?_)]
    · exact ho
    · rcases hX b hl hx with e | e | e
      · exact hb e
      · exact hr ⟨vi, .inl c3, e⟩
      · exact hr ⟨vk, .inr c4, e⟩
  · obtain ⟨v, hv | hv, e⟩ := hb
    · rw [d3] at hv; cases hv
      rcases hvi b e with e2 | e2
      · exact .inl ⟨vi, .inl c3, e2⟩
      · exact .inr e2
    · rw [d4] at hv; cases hv
      rcases hvk b e with e2 | e2
      · exact .inl ⟨vk, .inr c4, e2⟩
      · exact .inr e2
  · have hl := (Array.getElem?_eq_some_iff.1 ho).1
    rw [hf.block k hl (fun hx => ?_)]
    · exact ho
    · rcases hX k hl hx with rfl | e | e
      · rw [h.out] at ho; cases ho; cases hc
      · obtain ⟨_, h1, _⟩ := ci k e; rw [h1] at ho; cases ho; cases hc
      · obtain ⟨_, h1, _⟩ := ck k e; rw [h1] at ho; cases ho; cases hc

theorem set_take {l : List Value} {n i : Nat} {v : Value} : (l.set i v).take n = (l.take n).set i v := by
  rw [List.take_set]
/-- the last element of a row laid anew -/
theorem own_last {w : World} {base g n cap : Nat} {xs : List Value} {z0 z1 z2 z3 z4 : Value} (y0 y1 y2 y3 y4 : Value) (h : w.ownsRow base 25 5 (.slice (some ⟨g, 0, none⟩) (n + 1) cap) (n + 1) (xs ++ [z0, z1, z2, z3, z4])) (hx : xs.length = n * 5) :
    (((((w.setCell ⟨g, n * 5, none⟩ y0).setCell ⟨g, n * 5 + 1, none⟩ y1).setCell ⟨g, n * 5 + 2, none⟩ y2).setCell ⟨g, n * 5 + 3, none⟩ y3).setCell ⟨g, n * 5 + 4, none⟩ y4).ownsRow base 25 5 (.slice (some ⟨g, 0, none⟩) (n + 1) cap) (n + 1) (xs ++ [y0, y1, y2, y3, y4]) := by
  rcases h.2 with ⟨e, _⟩ | ⟨g', cap', cur, e, h1, h2, h3, h4, h5, h6⟩
  · cases e
  · simp only [Value.slice.injEq, Option.some.injEq, Addr.mk.injEq] at e
    obtain ⟨⟨rfl, _, _⟩, _, rfl⟩ := e
    have st : ∀ (u : World) (cs : Array Value) (i : Nat) (v : Value), u.heap[g]? = some (.cells cs 25 (0, 0)) → (u.setCell ⟨g, i, none⟩ v).heap[g]? = some (.cells (cs.setIfInBounds i v) 25 (0, 0)) := fun u cs i v hu => by
      show (u.heap.modify g _)[g]? = _
      rw [Array.getElem?_modify, if_pos rfl, hu]; rfl
    refine ⟨by simp [hx]; omega, .inr ⟨g, cap, ((((cur.setIfInBounds (n * 5) y0).setIfInBounds (n * 5 + 1) y1).setIfInBounds (n * 5 + 2) y2).setIfInBounds (n * 5 + 3) y3).setIfInBounds (n * 5 + 4) y4, rfl, h1, st _ _ _ _ (st _ _ _ _ (st _ _ _ _ (st _ _ _ _ (st _ _ _ _ h2)))), h3, h4, by simpa using h5, ?_⟩⟩
    simp only [Array.toList_setIfInBounds, set_take, h6]
    rw [← hx]
    simp [List.set_append]
end Go.Proofs.Ytaflpeajapdkdaa
namespace Go.Proofs.Ytaflpeajapdkdaa
open Go.RowKit Go.Maps Go.Sort Go.Shelf
set_option linter.unusedVariables false
set_option linter.unusedSimpArgs false
attribute [local go_sem] Oper.semAt_some

/-- append, as one word -/
def appOpV (ts : Array TypeId) (ty : TypeId) (args : Array Value) := Builtin.append_ ts ty args
theorem appOpV_eq (ts : Array TypeId) (ty : TypeId) (args : Array Value) : Builtin.append_ ts ty args = appOpV ts ty args := rfl
theorem own_shapeV {w : World} {base : Nat} {e : TypeId} {size : Nat} {v : Value} {n : Nat} {xs : List Value} (h : w.ownsRow base e size v n xs) : ∃ so sc, v = .slice so n sc := by
  rcases h.2 with ⟨e, h0⟩ | ⟨g, cap, cur, e, _⟩
  · exact ⟨none, 0, by rw [e, h0]⟩
  · exact ⟨_, _, e⟩
theorem own_succV {w : World} {base : Nat} {e : TypeId} {size : Nat} {v : Value} {n : Nat} {xs : List Value} (h : w.ownsRow base e size v (n + 1) xs) : ∃ g cap, v = .slice (some ⟨g, 0, none⟩) (n + 1) cap := by
  rcases h.2 with ⟨e, h0⟩ | ⟨g, cap, cur, e, _⟩
  · omega
  · exact ⟨_, _, e⟩

theorem setCell_comm (w : World) (p q : Addr) (a b : Value) (h : p.block ≠ q.block) : (w.setCell p a).setCell q b = (w.setCell q b).setCell p a := by
  unfold World.setCell
  congr 1
  apply Array.ext_getElem?
  intro i
  simp only [Array.getElem?_modify]
  by_cases h1 : p.block = i
  · have h2 : q.block ≠ i := fun e => h (h1.trans e.symm)
    simp [h1, h2]
  · simp [h1]
theorem setCell_comm5 (w : World) (B g : Nat) (hne : B ≠ g) (i0 i1 i2 i3 i4 : Nat) (v a0 a1 a2 a3 a4 : Value) :
    (((((w.setCell ⟨B, 3, none⟩ v).setCell ⟨g, i0, none⟩ a0).setCell ⟨g, i1, none⟩ a1).setCell ⟨g, i2, none⟩ a2).setCell ⟨g, i3, none⟩ a3).setCell ⟨g, i4, none⟩ a4 =
    (((((w.setCell ⟨g, i0, none⟩ a0).setCell ⟨g, i1, none⟩ a1).setCell ⟨g, i2, none⟩ a2).setCell ⟨g, i3, none⟩ a3).setCell ⟨g, i4, none⟩ a4).setCell ⟨B, 3, none⟩ v := by
  rw [setCell_comm w ⟨B, 3, none⟩ ⟨g, i0, none⟩ _ _ hne, setCell_comm _ ⟨B, 3, none⟩ ⟨g, i1, none⟩ _ _ hne, setCell_comm _ ⟨B, 3, none⟩ ⟨g, i2, none⟩ _ _ hne, setCell_comm _ ⟨B, 3, none⟩ ⟨g, i3, none⟩ _ _ hne, setCell_comm _ ⟨B, 3, none⟩ ⟨g, i4, none⟩ _ _ hne]

/-- the keys' half of a round -/
theorem GaS.keysUp {w W w4 : World} {B : Nat} {ky : Nat → ByteArray} {c : Nat → Fin 5 → Value} {l : List Nat} {x : Nat} {vi vk vk' : Value} {o : Obj} (hB : B = w.heap.size + 1) (h : GaS w B ky c l l vi vk W) (hg : (W.alloc o).grownBy w4 vk.ownBlock) (hown : w4.ownsRow (w.heap.size + 2) 9 1 vk' (l.length + 1) (kyL ky l ++ [.string (ky x)]))
    (hat : vk'.ownBlock = vk.ownBlock ∨ vk'.ownBlock = some (W.heap.size + 1)) :
    GaS w B ky c (l ++ [x]) l vi vk' (w4.setCell ⟨B, 4, none⟩ vk') ∧ Far (fun b => b = B ∨ vk.ownBlock = some b) W (w4.setCell ⟨B, 4, none⟩ vk') ∧ w4.heap[B]? = some (.cells #[.int .i64 6, .string ⟨#[]⟩, .string ⟨#[]⟩, vi, vk] 25 (0, 0)) := by
  have hlt := (Array.getElem?_eq_some_iff.1 h.out).1
  have nk : ∀ b cs, W.heap[b]? = some (.cells cs 25 (0, 0)) → some b ≠ vk.ownBlock := fun b cs hb e => by
    obtain ⟨cur, h1, _⟩ := own_isCells h.keys e.symm
    rw [h1] at hb
    simp at hb
  have old : ∀ b, b < W.heap.size → some b ≠ vk.ownBlock → w4.heap[b]? = W.heap[b]? := fun b hb hne => (hg.block b (by simp; omega) hne).trans (Below.heap_alloc _ _ b hb)
  have o4 : w4.heap[B]? = some (.cells #[.int .i64 6, .string ⟨#[]⟩, .string ⟨#[]⟩, vi, vk] 25 (0, 0)) := (old B hlt (nk B _ h.out)).trans h.out
  have oth : ∀ b, b ≠ B → (w4.setCell ⟨B, 4, none⟩ vk').heap[b]? = w4.heap[b]? := fun b hb => Below.heap_setCell _ _ _ _ hb
  have hbz := h.below.size
  refine ⟨⟨?_, ?_, ?_, ?_, ?_⟩, ?_, o4⟩
  · exact ((h.below.alloc hbz o).grown hg (by simp; omega) (fun r e => by obtain ⟨_, _, h2⟩ := own_isCells h.keys e; omega)).setCell (p := ⟨B, 4, none⟩) (by show _ ≤ B; omega) _
  · rw [oth _ (by omega), old _ (by omega) (nk _ _ h.res)]; exact h.res
  · exact setCell_box4 _ _ _ _ _ _ _ _ _ o4
  · rw [kyL_snoc, List.length_append]
    refine own_blk hown fun g e => oth g (fun e2 => ?_)
    subst e2
    obtain ⟨cur, h1, _⟩ := own_isCells hown e
    rw [o4] at h1; simp at h1
  · refine own_blk h.items fun g e => ?_
    obtain ⟨cur, h1, _⟩ := own_isCells h.items e
    have hne : g ≠ B := by obtain ⟨_, _, h2⟩ := own_isCells h.items e; omega
    rw [oth g hne, old g (Array.getElem?_eq_some_iff.1 h1).1 (nk g _ h1)]
  · exact ((Far.of_below (below1 W o)).trans (Far.of_grown hg (fun g e => .inr e))).trans (Far.set _ (.inl rfl))
theorem Far.mono {X Y : Nat → Prop} {A B : World} (h : Far X A B) (hxy : ∀ b, X b → Y b) : Far Y A B := ⟨h.os, h.tape, h.output, h.size, fun b hb hy => h.block b hb (fun hx => hy (hxy b hx))⟩

/-- the items' half -/
theorem GaS.itemsUp {w W w6 W8 : World} {B g cap : Nat} {ky : Nat → ByteArray} {c : Nat → Fin 5 → Value} {l : List Nat} {x : Nat} {vi vk : Value} {o : Obj} (hB : B = w.heap.size + 1) (h : GaS w B ky c (l ++ [x]) l vi vk W) (hg : (W.alloc o).grownBy w6 vi.ownBlock)
    (hown : w6.ownsRow (w.heap.size + 2) 25 5 (.slice (some ⟨g, 0, none⟩) (l.length + 1) cap) (l.length + 1) (flL c l ++ [.int .i64 0, .string ⟨#[]⟩, .string ⟨#[]⟩, .slice none 0 0, .slice none 0 0]))
    (hat : vi.ownBlock = some g ∨ W.heap.size + 1 = g)
    (h8 : W8 = ((((((w6.setCell ⟨g, l.length * 5, none⟩ (c x 0)).setCell ⟨g, l.length * 5 + 1, none⟩ (c x 1)).setCell ⟨g, l.length * 5 + 2, none⟩ (c x 2)).setCell ⟨g, l.length * 5 + 3, none⟩ (c x 3)).setCell ⟨g, l.length * 5 + 4, none⟩ (c x 4)).setCell ⟨B, 3, none⟩ (.slice (some ⟨g, 0, none⟩) (l.length + 1) cap))) :
    GaS w B ky c (l ++ [x]) (l ++ [x]) (.slice (some ⟨g, 0, none⟩) (l.length + 1) cap) vk W8 ∧ Far (fun b => b = B ∨ vi.ownBlock = some b ∨ W.heap.size ≤ b) W W8 ∧ w6.heap[B]? = some (.cells #[.int .i64 6, .string ⟨#[]⟩, .string ⟨#[]⟩, vi, vk] 25 (0, 0)) := by
  have hlt := (Array.getElem?_eq_some_iff.1 h.out).1
  have hbz := h.below.size
  have nB : some B ≠ vi.ownBlock := fun e => by obtain ⟨_, _, h2⟩ := own_isCells h.items e.symm; omega
  have nR : some w.heap.size ≠ vi.ownBlock := fun e => by obtain ⟨_, _, h2⟩ := own_isCells h.items e.symm; omega
  have old : ∀ b, b < W.heap.size → some b ≠ vi.ownBlock → w6.heap[b]? = W.heap[b]? := fun b hb hne => (hg.block b (by simp; omega) hne).trans (Below.heap_alloc _ _ b hb)
  have o6 : w6.heap[B]? = some (.cells #[.int .i64 6, .string ⟨#[]⟩, .string ⟨#[]⟩, vi, vk] 25 (0, 0)) := (old B hlt nB).trans h.out
  have hgB : g ≠ B := by
    rcases hat with e | e
    · obtain ⟨_, _, h2⟩ := own_isCells h.items e; omega
    · omega
  obtain ⟨w7, hw7⟩ : ∃ w7, ((((w6.setCell ⟨g, l.length * 5, none⟩ (c x 0)).setCell ⟨g, l.length * 5 + 1, none⟩ (c x 1)).setCell ⟨g, l.length * 5 + 2, none⟩ (c x 2)).setCell ⟨g, l.length * 5 + 3, none⟩ (c x 3)).setCell ⟨g, l.length * 5 + 4, none⟩ (c x 4) = w7 := ⟨_, rfl⟩
  have own7 : w7.ownsRow (w.heap.size + 2) 25 5 (.slice (some ⟨g, 0, none⟩) (l.length + 1) cap) (l.length + 1) (flL c l ++ [c x 0, c x 1, c x 2, c x 3, c x 4]) := by
    rw [← hw7]
    exact own_last _ _ _ _ _ hown h.items.1
  have oth7 : ∀ b, b ≠ g → w7.heap[b]? = w6.heap[b]? := fun b hb => by
    rw [← hw7, Below.heap_setCell _ _ _ _ hb, Below.heap_setCell _ _ _ _ hb, Below.heap_setCell _ _ _ _ hb, Below.heap_setCell _ _ _ _ hb, Below.heap_setCell _ _ _ _ hb]
  rw [hw7] at h8
  have oth8 : ∀ b, b ≠ B → W8.heap[b]? = w7.heap[b]? := fun b hb => by rw [h8]; exact Below.heap_setCell _ _ _ _ hb
  have far6 : Far (fun b => b = B ∨ vi.ownBlock = some b ∨ W.heap.size ≤ b) W w6 := (Far.of_below (below1 W o)).trans (Far.of_grown hg (fun g e => .inr (.inl e)))
  have sz7 : w7.heap.size = w6.heap.size := by rw [← hw7]; simp
  have sz8 : W8.heap.size = w6.heap.size := by rw [h8, ← sz7]; simp
  have hgX : g = B ∨ vi.ownBlock = some g ∨ W.heap.size ≤ g := by
    rcases hat with e | e
    · exact .inr (.inl e)
    · exact .inr (.inr (by omega))
  have far8 : Far (fun b => b = B ∨ vi.ownBlock = some b ∨ W.heap.size ≤ b) W W8 := by
    rw [h8, ← hw7]
    exact (((((far6.trans (Far.set _ hgX)).trans (Far.set _ hgX)).trans (Far.set _ hgX)).trans (Far.set _ hgX)).trans (Far.set _ hgX)).trans (Far.set _ (.inl rfl))
  refine ⟨⟨⟨far8.os.trans h.below.os, far8.tape.trans h.below.tape, far8.output.trans h.below.output, Nat.le_trans hbz far8.size, fun b hb => ?_⟩, ?_, ?_, ?_, ?_⟩, far8, o6⟩
  · rw [far8.block b (by omega) (fun e => ?_)]
    · exact h.below.block b hb
    · rcases e with e | e | e
      · omega
      · obtain ⟨_, _, h2⟩ := own_isCells h.items e; omega
      · omega
  · rw [far8.block _ (by omega) (fun e => ?_)]
    · exact h.res
    · rcases e with e | e | e
      · omega
      · exact nR e.symm
      · omega
  · rw [h8]
    exact setCell_box _ _ _ _ _ _ _ _ _ ((oth7 B (fun e => hgB e.symm)).trans o6)
  · refine own_blk h.keys fun b e => ?_
    obtain ⟨cur, h1, h2⟩ := own_isCells h.keys e
    have hbl := (Array.getElem?_eq_some_iff.1 h1).1
    rw [far8.block b hbl (fun e2 => ?_)]
    rcases e2 with e2 | e2 | e2
    · omega
    · obtain ⟨cur2, h3, _⟩ := own_isCells h.items e2
      rw [h1] at h3; simp at h3
    · omega
  · rw [flL_snoc, List.length_append]
    refine own_blk own7 fun b e => oth8 b (fun e2 => ?_)
    simp [Value.ownBlock] at e
    exact hgB (e.trans e2)
end Go.Proofs.Ytaflpeajapdkdaa
namespace Go.Proofs.Ytaflpeajapdkdaa
open Go.RowKit Go.Maps Go.Sort Go.Shelf
set_option linter.unusedVariables false
set_option linter.unusedSimpArgs false
attribute [local go_sem] Oper.semAt_some
attribute [local go_sem ↓] appOpV_eq

/-- what gathered hands back -/
structure GaR (w w' : World) (ky : Nat → ByteArray) (c : Nat → Fin 5 → Value) (M : Nat) (vi vk : Value) : Prop where
  below : Below w.heap.size w w'
  keys : w'.ownsRow w.heap.size 9 1 vk M (kyL ky (List.range M))
  items : w'.ownsRow w.heap.size 25 5 vi M (flL c (List.range M))
end Go.Proofs.Ytaflpeajapdkdaa
namespace Go.Proofs.Ytaflpeajapdkdaa
open Go.RowKit Go.Shelf Go.Maps
set_option linter.unusedVariables false
set_option linter.unusedSimpArgs false

/-- the two blocks that a loop over a function lays -/
structure BkO (B : Nat) (r : Loop) (W : World) : Prop where
  book : W.heap[B + 1]? = some (.loop r)
  off : W.heap[B]? = some (.deferred (some []))
theorem BkO.kept {B : Nat} {r : Loop} {W W' : World} (h : BkO B r W) (hk : KeepsFrom B W W') : BkO B r W' :=
  ⟨hk.same _ _ (Nat.le_succ _) h.book rfl, hk.same _ _ (Nat.le_refl _) h.off rfl⟩
theorem BkO.put {B : Nat} {r : Loop} {W : World} (h : BkO B r W) (r' : Loop) : BkO B r' (W.putObj (B + 1) (.loop r')) :=
  ⟨World.putObj_heap_same (Array.getElem?_eq_some_iff.1 h.book).1, (World.putObj_heap_other (by omega)).trans h.off⟩
theorem BkO.own {β : Type} {B : Nat} {r : Loop} {W : World} (h : BkO B r W) {I : β → World → Prop} (hI : OwnFrom B I) {x : β} (hx : I x W) (r' : Loop) : I x (W.putObj (B + 1) (.loop r')) :=
  hI.putObj _ hx (Nat.le_succ _) h.book rfl
theorem BkO.grown {B K : Nat} {r : Loop} {W W' : World} {row : Option Nat} (h : BkO B r W) (hK : B + 2 ≤ K) (hg : W.grownBy W' row) (hr : ∀ q, row = some q → K ≤ q) : BkO B r W' :=
  ⟨(hg.block _ (Array.getElem?_eq_some_iff.1 h.book).1 (fun e => by have := hr _ e.symm; omega)).trans h.book, (hg.block _ (Array.getElem?_eq_some_iff.1 h.off).1 (fun e => by have := hr _ e.symm; omega)).trans h.off⟩
/-- an iterator that may range over another one within: the caller's word abides the turn of whatever block lies behind and holds no cells -/
def SeqO {α : Type} (n : Nat) (P : Program) (gf : Nat) (lb : Array Value) (encs : α → Array Value) (Kp : World → World → Prop) (S Sp : List α → Prop) (N : Nat) (w0 : World) : Prop :=
  ∀ (l : Nat) (J Jx : List α → World → Prop) (W : World), Below w0.heap.size w0 W → w0.heap.size + 2 ≤ W.heap.size → OwnFrom W.heap.size J → OwnFrom W.heap.size Jx →
    (∀ pre x W1, J pre W1 → pre.length < N → Sp (pre ++ [x]) → YieldAt Fence.wide (n - 1) P l (encs x) W1 fun e W' =>
      (e = .returned (.bool true) ∧ J (pre ++ [x]) W' ∧ Kp W1 W') ∨ (e = .returned (.bool false) ∧ Jx (pre ++ [x]) W' ∧ Kp W1 W')) →
    J [] W →
    CallsIn Fence.wide n P gf (#[.func (.yield l) #[] #[]] ++ lb) W fun e W' => (∃ v, e = .returned v) ∧ ((∃ xs, S xs ∧ J xs W') ∨ (∃ pre, Sp pre ∧ Jx pre W'))
theorem wpIn_range_ownO {α : Type} {P : Program} {n : Nat} {g : Operand} {ps : Array Tmp} {assign body : Code} {Q : Exit → Act → World → Prop} {a : Act} {w : World} (h1 : 1 ≤ n)
    {gf : Nat} {lb : Array Value} (hg : a.eval g = .func (.func gf) #[] lb) (eg : ∀ args w, (callFunc gf args).run P w = .ok (.enter gf args) w)
    {encs : α → Array Value} {Kp : World → World → Prop} {S Sp : List α → Prop} {N : Nat} {w0 : World} (hseq : SeqO (n - 1) P gf lb encs Kp S Sp N w0)
    (hKt : ∀ {A B C : World}, Kp A B → Kp B C → Kp A C) (hKb : ∀ (W : World) (r r' : Loop), W.heap[w.heap.size + 1]? = some (.loop r) → Kp W (W.putObj (w.heap.size + 1) (.loop r'))) (hb0 : Below w0.heap.size w0 w) (hps : ∀ x, (encs x).size = ps.size)
    (I : List α → World → Prop) (Ix : Code → List α → World → Prop) (hI : OwnFrom w.heap.size I) (hIx : ∀ c, OwnFrom w.heap.size (Ix c)) (h0 : I [] w) (Ax : α → Act → World → Prop) (hAx : ∀ x a', OwnFrom w.heap.size (fun (_ : Unit) W => Ax x a' W))
    (hassign : ∀ (l : Nat) (pre : List α) (x : α) (W : World) (K : Act → World → Prop), I pre W → (∀ a' W', KeepsFrom w.heap.size W W' → Kp W W' → I pre W' → Ax x a' W' → K a' W') →
      assign.wpIn (Fence.wide.inRound l) (n - 1 - 1) P (Exit.then K (fun _ _ _ => False)) { tmps := (ps.zip (encs x)).foldl (fun t (p, v) => t.setIfInBounds p v) a.tmps, defers := [] } W)
    (hbody : ∀ (l : Nat) (pre : List α) (x : α) (a' : Act) (W : World), w.heap.size ≤ l → (∃ r, W.heap[l]? = some (.loop r)) → I pre W → Ax x a' W → pre.length < N → Sp (pre ++ [x]) → body.wpIn (Fence.wide.inRound l) (n - 1 - 1) P (fun e a3 W3 => ownPostG w.heap.size Kp I Ix (pre ++ [x]) W e a3 W3 ∧ Kp W W3) a' W)
    (hdone : ∀ (D : Nat) (xs : List α) (W : World), w.heap.size ≤ D → S xs → I xs W → W.heap[D]? = some (.deferred (some [])) → Q .normal { a with defers := { target := .collected D, args := #[] } :: a.defers } W)
    (hstop : ∀ (D : Nat) (c : Code) (pre : List α) (W : World), w.heap.size ≤ D → Sp pre → Ix c pre W → W.heap[D]? = some (.deferred (some [])) → c.wpIn Fence.wide n P Q { a with defers := { target := .collected D, args := #[] } :: a.defers } W) :
    (Code.rangeFunc g ps assign body).wpIn Fence.wide n P Q a w := by
  refine wpIn_rangeFunc fun fn hfn => ?_
  obtain ⟨R, hR⟩ : ∃ R : LoopState → Option Code → Loop, R = fun st pe => { state := st, pending := pe, fn, tmps := a.tmps, params := ps, assign, body, defers := w.heap.size } := ⟨_, rfl⟩
  obtain ⟨V, hV⟩ : ∃ V, V = (w.alloc (.deferred (some []))).alloc (.loop (R .ready none)) := ⟨_, rfl⟩
  have hVs : V.heap.size = w.heap.size + 2 := by rw [hV]; simp
  have hVb : Below w.heap.size w V := by rw [hV]; exact (below1 w _).trans ((below1 (w.alloc _) _).mono (by simp))
  have hBk : BkO w.heap.size (R .ready none) V := by
    subst hV
    refine ⟨?_, ?_⟩
    · have := World.alloc_heap_new (w.alloc (.deferred (some []))) (.loop (R .ready none))
      rwa [World.size_alloc] at this
    · exact (Below.heap_alloc _ _ _ (by simp)).trans (World.alloc_heap_new w _)
  have hI0 : I [] V := by rw [hV]; exact hI.alloc _ (hI.alloc _ h0)
  refine ⟨w.heap.size + 1, [{ target := .collected w.heap.size, args := #[] }], V, { target := .fn (.func gf) lb, args := #[.func (.yield (w.heap.size + 1)) #[] #[]] }, V, gf, #[.func (.yield (w.heap.size + 1)) #[] #[]] ++ lb, V, ?enter, ?res, fun _ _ => trivial, ?inv, fun _ => h1, ?call⟩
  case enter => rw [hV, hR]; exact run_enterLoop_outer _ _ _ _ _
  case res =>
    simp only [resolve, hg]
    simp [go_sem, Deferred.ofValue]
  case inv => simp [invoke, go_sem, eg]
  case call =>
    have hround : ∀ pre x W, (I pre W ∧ BkO w.heap.size (R .ready none) W) → pre.length < N → Sp (pre ++ [x]) → YieldAt Fence.wide (n - 1 - 1) P (w.heap.size + 1) (encs x) W fun e W' =>
        (e = .returned (.bool true) ∧ (I (pre ++ [x]) W' ∧ BkO w.heap.size (R .ready none) W') ∧ Kp W W') ∨ (e = .returned (.bool false) ∧ (∃ c, Ix c (pre ++ [x]) W' ∧ BkO w.heap.size (R .done (some c)) W') ∧ Kp W W') := by
      rintro pre x W ⟨hi, hb⟩ hN hSp
      have hy := run_yield (P := P) (args := encs x) hb.book (by rw [hR]; exact hps x)
      rw [hR] at hy
      refine ⟨fn, _, assign, body, hy, roundIn_of_wpIn hfn (hassign _ pre x W _ hi ?_)⟩
      intro a' Wa k1 kp1 hi1 hax
      have hb1 := hb.kept k1
      obtain ⟨rb, hrb⟩ : ∃ rb : Loop, rb = { R .ready none with state := .busy } := ⟨_, rfl⟩
      have hb2 := hb1.put rb
      refine ⟨Wa.putObj (w.heap.size + 1) (.loop rb), by rw [hrb]; exact run_beginRound hb1.book (by rw [hR]), ?_⟩
      refine wpIn_mono (hbody _ pre x a' _ (Nat.le_succ _) ⟨_, hb2.book⟩ (hb1.own hI hi1 rb) (hb1.own (hAx x a') (x := ()) hax rb) hN hSp) ?_
      have kp2 := hKt kp1 (hKb Wa _ rb hb1.book)
      rintro e a3 W3 ⟨hp, kp3⟩
      have fin : ∀ (j : Option Code), BkO w.heap.size rb W3 → (Instr.endRound (w.heap.size + 1) j).run P W3 = .ok (.bool j.isNone) (W3.putObj (w.heap.size + 1) (.loop (R (if j.isNone then .ready else .done) j))) := fun j hb3 => by
        have := run_endRound (P := P) j hb3.book
        rw [hrb, hR] at this
        rw [hR]; exact this
      cases e with
      | normal =>
        obtain ⟨k3, _, hi3⟩ := hp
        have hb3 := hb2.kept k3
        exact ⟨_, _, fin none hb3, .inl ⟨rfl, ⟨hb3.own hI hi3 _, hb3.put _⟩, hKt (hKt kp2 kp3) (hKb _ _ _ hb3.book)⟩⟩
      | ret =>
        obtain ⟨k3, hi3⟩ := hp
        have hb3 := hb2.kept k3
        exact ⟨_, _, fin (some (.ret)) hb3, .inr ⟨rfl, ⟨.ret, hb3.own (hIx _) hi3 _, hb3.put _⟩, hKt (hKt kp2 kp3) (hKb _ _ _ hb3.book)⟩⟩
      | exit id =>
        obtain ⟨k3, hi3⟩ := hp
        have hb3 := hb2.kept k3
        exact ⟨_, _, fin (some (.exit id)) hb3, .inr ⟨rfl, ⟨.exit id, hb3.own (hIx _) hi3 _, hb3.put _⟩, hKt (hKt kp2 kp3) (hKb _ _ _ hb3.book)⟩⟩
      | goto t =>
        obtain ⟨k3, hi3⟩ := hp
        have hb3 := hb2.kept k3
        exact ⟨_, _, fin (some (.goto t)) hb3, .inr ⟨rfl, ⟨.goto t, hb3.own (hIx _) hi3 _, hb3.put _⟩, hKt (hKt kp2 kp3) (hKb _ _ _ hb3.book)⟩⟩
      | panic ch => exact hp.elim
      | outgrown => exact hp.elim
    have gK : ∀ (W W' : World) (row : Option Nat), (∀ r, row = some r → V.heap.size ≤ r ∧ ∃ o : Obj, W.heap[r]? = some o ∧ o.isCells = false) → ∀ r, row = some r → w.heap.size ≤ r ∧ ∃ o : Obj, W.heap[r]? = some o ∧ o.isCells = false := fun W W' row hr r e => ⟨by have := (hr r e).1; omega, (hr r e).2⟩
    refine (hseq _ (fun pre W => I pre W ∧ BkO w.heap.size (R .ready none) W) (fun pre W => ∃ c, Ix c pre W ∧ BkO w.heap.size (R .done (some c)) W) V (hb0.trans (hVb.mono hb0.size)) (by have := hb0.size; omega)
      (fun xs A A' row h hgr hr => ⟨hI xs A A' row h.1 hgr (gK A A' row hr), h.2.grown (K := V.heap.size) (by omega) hgr (fun q e => (hr q e).1)⟩)
      (fun xs A A' row h hgr hr => let ⟨c, h1, h2⟩ := h; ⟨c, hIx c xs A A' row h1 hgr (gK A A' row hr), h2.grown (K := V.heap.size) (by omega) hgr (fun q e => (hr q e).1)⟩)
      hround ⟨hI0, hBk⟩).mono ?_
    rintro e W2 ⟨⟨v, rfl⟩, ⟨xs, hS, hi, hb⟩ | ⟨pre, hSp, c, hi, hb⟩⟩
    · have he := run_endLoop (P := P) hb.book (by rw [hR]; simp)
      rw [hR] at he
      exact ⟨none, _, he, hdone _ xs _ (Nat.le_refl _) hS (hb.own hI hi _) (hb.put _).off⟩
    · have he := run_endLoop (P := P) hb.book (by rw [hR]; simp)
      rw [hR] at he
      exact ⟨some c, _, he, hstop _ c pre _ (Nat.le_refl _) hSp (hb.own (hIx c) hi _) (hb.put _).off⟩
/-- what a round that gathers keeps: nothing that holds no cells and lies from K on is turned -/
def KpX (n₀ B K : Nat) (W W' : World) : Prop := KpG n₀ B W W' ∧ KeepsFrom K W W'
theorem keepsFrom_tr {m : Nat} {A B C : World} (h : KeepsFrom m A B) (k : KeepsFrom m B C) : KeepsFrom m A C :=
  ⟨Nat.le_trans h.size k.size, fun b o hb ho hc => k.same b o hb (h.same b o hb ho hc) hc⟩
theorem keepsFrom_up {m m' : Nat} (hm : m ≤ m') {A B : World} (h : KeepsFrom m A B) : KeepsFrom m' A B := ⟨h.size, fun b o hb ho hc => h.same b o (Nat.le_trans hm hb) ho hc⟩
theorem KpX.trans {n₀ B K : Nat} {X Y Z : World} (h : KpX n₀ B K X Y) (k : KpX n₀ B K Y Z) : KpX n₀ B K X Z := ⟨h.1.trans k.1, keepsFrom_tr h.2 k.2⟩
theorem KpX.put {n₀ B K : Nat} {w : World} (hm : n₀ ≤ w.heap.size) (hB : B < w.heap.size) (hK : w.heap.size + 2 ≤ K) (W : World) (r r' : Loop) (h : W.heap[w.heap.size + 1]? = some (.loop r)) : KpX n₀ B K W (W.putObj (w.heap.size + 1) (.loop r')) :=
  ⟨KpG.put hm hB W _ _ _ (Nat.le_succ _) h rfl rfl, (by simp [World.putObj]), fun b o hb ho _ => (World.putObj_heap_other (by omega)).trans ho⟩
theorem KpX.of_below {n₀ B K : Nat} {W W' : World} (hn : n₀ ≤ W.heap.size) (hB : B < W.heap.size) (hb : Below W.heap.size W W') : KpX n₀ B K W W' := ⟨KpG.of_below hn hB hb, hb.size, fun b o _ ho _ => (hb.block b (Array.getElem?_eq_some_iff.1 ho).1).trans ho⟩
end Go.Proofs.Ytaflpeajapdkdaa
