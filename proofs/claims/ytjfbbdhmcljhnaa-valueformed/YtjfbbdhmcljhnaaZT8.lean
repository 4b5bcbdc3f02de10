import Derived.Test.YtjfbbdhmcljhnaaZT7
import Derived.Laws.EntriesVeiled
namespace Go.Proofs.Ytjfbbdhmcljhnaa
open Go.RowKit Go.Maps Go.Sort Go.Shelf
set_option linter.unusedVariables false
set_option linter.unusedSimpArgs false
attribute [local go_sem] Oper.semAt_some

/-- append, as one word -/
def appOpV (ts : Array TypeId) (ty : TypeId) (args : Array Value) := Builtin.append_ ts ty args
theorem appOpV_eq (ts : Array TypeId) (ty : TypeId) (args : Array Value) : Builtin.append_ ts ty args = appOpV ts ty args := rfl
theorem own_shapeV {w : World} {base : Nat} {e : TypeId} {size : Nat} {v : Value} {n : Nat} {xs : List Value} (h : w.ownsRow base e size v n xs) : ∃ so sc, v = .slice so n sc := by
  rcases h.2 with ⟨e, h0⟩ | ⟨g, cap, cur, e, _⟩
  · exact ⟨none, 0, by rw [e, h0]⟩
  · exact ⟨_, _, e⟩
theorem own_succV {w : World} {base : Nat} {e : TypeId} {size : Nat} {v : Value} {n : Nat} {xs : List Value} (h : w.ownsRow base e size v (n + 1) xs) : ∃ g cap, v = .slice (some ⟨g, 0, none⟩) (n + 1) cap := by
  rcases h.2 with ⟨e, h0⟩ | ⟨g, cap, cur, e, _⟩
  · omega
  · exact ⟨_, _, e⟩

theorem setCell_comm (w : World) (p q : Addr) (a b : Value) (h : p.block ≠ q.block) : (w.setCell p a).setCell q b = (w.setCell q b).setCell p a := by
  unfold World.setCell
  congr 1
  apply Array.ext_getElem?
  intro i
  simp only [Array.getElem?_modify]
  by_cases h1 : p.block = i
  · have h2 : q.block ≠ i := fun e => h (h1.trans e.symm)
    simp [h1, h2]
  · simp [h1]
theorem setCell_comm5 (w : World) (B g : Nat) (hne : B ≠ g) (i0 i1 i2 i3 i4 : Nat) (v a0 a1 a2 a3 a4 : Value) :
    (((((w.setCell ⟨B, 3, none⟩ v).setCell ⟨g, i0, none⟩ a0).setCell ⟨g, i1, none⟩ a1).setCell ⟨g, i2, none⟩ a2).setCell ⟨g, i3, none⟩ a3).setCell ⟨g, i4, none⟩ a4 =
    (((((w.setCell ⟨g, i0, none⟩ a0).setCell ⟨g, i1, none⟩ a1).setCell ⟨g, i2, none⟩ a2).setCell ⟨g, i3, none⟩ a3).setCell ⟨g, i4, none⟩ a4).setCell ⟨B, 3, none⟩ v := by
  rw [setCell_comm w ⟨B, 3, none⟩ ⟨g, i0, none⟩ _ _ hne, setCell_comm _ ⟨B, 3, none⟩ ⟨g, i1, none⟩ _ _ hne, setCell_comm _ ⟨B, 3, none⟩ ⟨g, i2, none⟩ _ _ hne, setCell_comm _ ⟨B, 3, none⟩ ⟨g, i3, none⟩ _ _ hne, setCell_comm _ ⟨B, 3, none⟩ ⟨g, i4, none⟩ _ _ hne]

/-- the keys' half of a round -/
theorem GaS.keysUp {w W w4 : World} {B : Nat} {ky : Nat → ByteArray} {c : Nat → Fin 5 → Value} {l : List Nat} {x : Nat} {vi vk vk' : Value} {o : Obj} (hB : B = w.heap.size + 1) (h : GaS w B ky c l l vi vk W) (hg : (W.alloc o).grownBy w4 vk.ownBlock) (hown : w4.ownsRow (w.heap.size + 2) 9 1 vk' (l.length + 1) (kyL ky l ++ [.string (ky x)]))
    (hat : vk'.ownBlock = vk.ownBlock ∨ vk'.ownBlock = some (W.heap.size + 1)) :
    GaS w B ky c (l ++ [x]) l vi vk' (w4.setCell ⟨B, 4, none⟩ vk') ∧ Far (fun b => b = B ∨ vk.ownBlock = some b) W (w4.setCell ⟨B, 4, none⟩ vk') ∧ w4.heap[B]? = some (.cells #[.int .i64 6, .string ⟨#[]⟩, .string ⟨#[]⟩, vi, vk] 25 (0, 0)) := by
  have hlt := (Array.getElem?_eq_some_iff.1 h.out).1
  have nk : ∀ b cs, W.heap[b]? = some (.cells cs 25 (0, 0)) → some b ≠ vk.ownBlock := fun b cs hb e => by
    obtain ⟨cur, h1, _⟩ := own_isCells h.keys e.symm
    rw [h1] at hb
    simp at hb
  have old : ∀ b, b < W.heap.size → some b ≠ vk.ownBlock → w4.heap[b]? = W.heap[b]? := fun b hb hne => (hg.block b (by simp; omega) hne).trans (Below.heap_alloc _ _ b hb)
  have o4 : w4.heap[B]? = some (.cells #[.int .i64 6, .string ⟨#[]⟩, .string ⟨#[]⟩, vi, vk] 25 (0, 0)) := (old B hlt (nk B _ h.out)).trans h.out
  have oth : ∀ b, b ≠ B → (w4.setCell ⟨B, 4, none⟩ vk').heap[b]? = w4.heap[b]? := fun b hb => Below.heap_setCell _ _ _ _ hb
  have hbz := h.below.size
  refine ⟨⟨?_, ?_, ?_, ?_, ?_⟩, ?_, o4⟩
  · exact ((h.below.alloc hbz o).grown hg (by simp; omega) (fun r e => by obtain ⟨_, _, h2⟩ := own_isCells h.keys e; omega)).setCell (p := ⟨B, 4, none⟩) (by show _ ≤ B; omega) _
  · rw [oth _ (by omega), old _ (by omega) (nk _ _ h.res)]; exact h.res
  · exact setCell_box4 _ _ _ _ _ _ _ _ _ o4
  · rw [kyL_snoc, List.length_append]
    refine own_blk hown fun g e => oth g (fun e2 => ?_)
    subst e2
    obtain ⟨cur, h1, _⟩ := own_isCells hown e
    rw [o4] at h1; simp at h1
  · refine own_blk h.items fun g e => ?_
    obtain ⟨cur, h1, _⟩ := own_isCells h.items e
    have hne : g ≠ B := by obtain ⟨_, _, h2⟩ := own_isCells h.items e; omega
    rw [oth g hne, old g (Array.getElem?_eq_some_iff.1 h1).1 (nk g _ h1)]
  · exact ((Far.of_below (below1 W o)).trans (Far.of_grown hg (fun g e => .inr e))).trans (Far.set _ (.inl rfl))
theorem Far.mono {X Y : Nat → Prop} {A B : World} (h : Far X A B) (hxy : ∀ b, X b → Y b) : Far Y A B := ⟨h.os, h.tape, h.output, h.size, fun b hb hy => h.block b hb (fun hx => hy (hxy b hx))⟩

/-- the items' half -/
theorem GaS.itemsUp {w W w6 W8 : World} {B g cap : Nat} {ky : Nat → ByteArray} {c : Nat → Fin 5 → Value} {l : List Nat} {x : Nat} {vi vk : Value} {o : Obj} (hB : B = w.heap.size + 1) (h : GaS w B ky c (l ++ [x]) l vi vk W) (hg : (W.alloc o).grownBy w6 vi.ownBlock)
    (hown : w6.ownsRow (w.heap.size + 2) 25 5 (.slice (some ⟨g, 0, none⟩) (l.length + 1) cap) (l.length + 1) (flL c l ++ [.int .i64 0, .string ⟨#[]⟩, .string ⟨#[]⟩, .slice none 0 0, .slice none 0 0]))
    (hat : vi.ownBlock = some g ∨ W.heap.size + 1 = g)
    (h8 : W8 = ((((((w6.setCell ⟨g, l.length * 5, none⟩ (c x 0)).setCell ⟨g, l.length * 5 + 1, none⟩ (c x 1)).setCell ⟨g, l.length * 5 + 2, none⟩ (c x 2)).setCell ⟨g, l.length * 5 + 3, none⟩ (c x 3)).setCell ⟨g, l.length * 5 + 4, none⟩ (c x 4)).setCell ⟨B, 3, none⟩ (.slice (some ⟨g, 0, none⟩) (l.length + 1) cap))) :
    GaS w B ky c (l ++ [x]) (l ++ [x]) (.slice (some ⟨g, 0, none⟩) (l.length + 1) cap) vk W8 ∧ Far (fun b => b = B ∨ vi.ownBlock = some b ∨ W.heap.size ≤ b) W W8 ∧ w6.heap[B]? = some (.cells #[.int .i64 6, .string ⟨#[]⟩, .string ⟨#[]⟩, vi, vk] 25 (0, 0)) := by
  have hlt := (Array.getElem?_eq_some_iff.1 h.out).1
  have hbz := h.below.size
  have nB : some B ≠ vi.ownBlock := fun e => by obtain ⟨_, _, h2⟩ := own_isCells h.items e.symm; omega
  have nR : some w.heap.size ≠ vi.ownBlock := fun e => by obtain ⟨_, _, h2⟩ := own_isCells h.items e.symm; omega
  have old : ∀ b, b < W.heap.size → some b ≠ vi.ownBlock → w6.heap[b]? = W.heap[b]? := fun b hb hne => (hg.block b (by simp; omega) hne).trans (Below.heap_alloc _ _ b hb)
  have o6 : w6.heap[B]? = some (.cells #[.int .i64 6, .string ⟨#[]⟩, .string ⟨#[]⟩, vi, vk] 25 (0, 0)) := (old B hlt nB).trans h.out
  have hgB : g ≠ B := by
    rcases hat with e | e
    · obtain ⟨_, _, h2⟩ := own_isCells h.items e; omega
    · omega
  obtain ⟨w7, hw7⟩ : ∃ w7, ((((w6.setCell ⟨g, l.length * 5, none⟩ (c x 0)).setCell ⟨g, l.length * 5 + 1, none⟩ (c x 1)).setCell ⟨g, l.length * 5 + 2, none⟩ (c x 2)).setCell ⟨g, l.length * 5 + 3, none⟩ (c x 3)).setCell ⟨g, l.length * 5 + 4, none⟩ (c x 4) = w7 := ⟨_, rfl⟩
  have own7 : w7.ownsRow (w.heap.size + 2) 25 5 (.slice (some ⟨g, 0, none⟩) (l.length + 1) cap) (l.length + 1) (flL c l ++ [c x 0, c x 1, c x 2, c x 3, c x 4]) := by
    rw [← hw7]
    exact own_last _ _ _ _ _ hown h.items.1
  have oth7 : ∀ b, b ≠ g → w7.heap[b]? = w6.heap[b]? := fun b hb => by
    rw [← hw7, Below.heap_setCell _ _ _ _ hb, Below.heap_setCell _ _ _ _ hb, Below.heap_setCell _ _ _ _ hb, Below.heap_setCell _ _ _ _ hb, Below.heap_setCell _ _ _ _ hb]
  rw [hw7] at h8
  have oth8 : ∀ b, b ≠ B → W8.heap[b]? = w7.heap[b]? := fun b hb => by rw [h8]; exact Below.heap_setCell _ _ _ _ hb
  have far6 : Far (fun b => b = B ∨ vi.ownBlock = some b ∨ W.heap.size ≤ b) W w6 := (Far.of_below (below1 W o)).trans (Far.of_grown hg (fun g e => .inr (.inl e)))
  have sz7 : w7.heap.size = w6.heap.size := by rw [← hw7]; simp
  have sz8 : W8.heap.size = w6.heap.size := by rw [h8, ← sz7]; simp
  have hgX : g = B ∨ vi.ownBlock = some g ∨ W.heap.size ≤ g := by
    rcases hat with e | e
    · exact .inr (.inl e)
    · exact .inr (.inr (by omega))
  have far8 : Far (fun b => b = B ∨ vi.ownBlock = some b ∨ W.heap.size ≤ b) W W8 := by
    rw [h8, ← hw7]
    exact (((((far6.trans (Far.set _ hgX)).trans (Far.set _ hgX)).trans (Far.set _ hgX)).trans (Far.set _ hgX)).trans (Far.set _ hgX)).trans (Far.set _ (.inl rfl))
  refine ⟨⟨⟨far8.os.trans h.below.os, far8.tape.trans h.below.tape, far8.output.trans h.below.output, Nat.le_trans hbz far8.size, fun b hb => ?_⟩, ?_, ?_, ?_, ?_⟩, far8, o6⟩
  · rw [far8.block b (by omega) (fun e => ?_)]
    · exact h.below.block b hb
    · rcases e with e | e | e
      · omega
      · obtain ⟨_, _, h2⟩ := own_isCells h.items e; omega
      · omega
  · rw [far8.block _ (by omega) (fun e => ?_)]
    · exact h.res
    · rcases e with e | e | e
      · omega
      · exact nR e.symm
      · omega
  · rw [h8]
    exact setCell_box _ _ _ _ _ _ _ _ _ ((oth7 B (fun e => hgB e.symm)).trans o6)
  · refine own_blk h.keys fun b e => ?_
    obtain ⟨cur, h1, h2⟩ := own_isCells h.keys e
    have hbl := (Array.getElem?_eq_some_iff.1 h1).1
    rw [far8.block b hbl (fun e2 => ?_)]
    rcases e2 with e2 | e2 | e2
    · omega
    · obtain ⟨cur2, h3, _⟩ := own_isCells h.items e2
      rw [h1] at h3; simp at h3
    · omega
  · rw [flL_snoc, List.length_append]
    refine own_blk own7 fun b e => oth8 b (fun e2 => ?_)
    simp [Value.ownBlock] at e
    exact hgB (e.trans e2)
end Go.Proofs.Ytjfbbdhmcljhnaa
