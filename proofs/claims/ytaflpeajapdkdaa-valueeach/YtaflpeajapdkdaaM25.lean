import Derived.Test.YtaflpeajapdkdaaM24
import Derived.Test.YtaflpeajapdkdaaM19
import Derived.Maps.OwnIn
namespace Go.Proofs.Ytaflpeajapdkdaa
open Go.RowKit Go.Maps Go.Sort Go.Shelf
set_option linter.unusedVariables false
set_option linter.unusedSimpArgs false
attribute [local go_sem] Oper.semAt_some

/-- a block of one of the two rows that the object in box B holds -/
def rwAt (W : World) (B b : Nat) : Prop := ∃ v, (W.cell? ⟨B, 3, none⟩ = some v ∨ W.cell? ⟨B, 4, none⟩ = some v) ∧ v.ownBlock = some b
/-- what a round that gathers into box B keeps -/
structure KpG (n₀ B : Nat) (W W' : World) : Prop where
  below : Below n₀ W W'
  same : ∀ b o, b ≠ B → ¬ rwAt W B b → W.heap[b]? = some o → o.isCells = true → W'.heap[b]? = some o
  rows : ∀ b, rwAt W' B b → rwAt W B b ∨ W.heap.size ≤ b
theorem KpG.trans {n₀ B : Nat} {X Y Z : World} (h : KpG n₀ B X Y) (k : KpG n₀ B Y Z) : KpG n₀ B X Z := by
  refine ⟨h.below.trans k.below, fun b o hb hr ho hc => ?_, fun b hb => ?_⟩
  · refine k.same b o hb (fun hy => ?_) (h.same b o hb hr ho hc) hc
    have := (Array.getElem?_eq_some_iff.1 ho).1
    rcases h.rows b hy with hx | hx
    · exact hr hx
    · omega
  · rcases k.rows b hb with hy | hy
    · exact h.rows b hy
    · exact .inr (Nat.le_trans h.below.size hy)
theorem rwAt_same {W W' : World} {B b : Nat} (h : W'.heap[B]? = W.heap[B]?) : rwAt W' B b ↔ rwAt W B b := by
  unfold rwAt
  rw [World.cell?_of_block (a := ⟨B, 3, none⟩) h, World.cell?_of_block (a := ⟨B, 4, none⟩) h]
theorem KpG.put {n₀ B : Nat} {w : World} (hm : n₀ ≤ w.heap.size) (hB : B < w.heap.size) (W : World) (l : Nat) (o o' : Obj) (hl : w.heap.size ≤ l) (h : W.heap[l]? = some o) (hc : o.isCells = false) (hw : o.isWalk = false) : KpG n₀ B W (W.putObj l o') := by
  refine ⟨belowK_b (w := w) hm W l o o' hl h hc hw, fun b x hb hr hx hxc => ?_, fun b hb => .inl ?_⟩
  · rw [World.putObj_heap_other (by rintro rfl; rw [h] at hx; cases hx; rw [hc] at hxc; cases hxc)]; exact hx
  · exact (rwAt_same (World.putObj_heap_other (by omega))).1 hb
theorem KpG.of_below {n₀ B : Nat} {W W' : World} (hn : n₀ ≤ W.heap.size) (hB : B < W.heap.size) (hb : Below W.heap.size W W') : KpG n₀ B W W' :=
  ⟨hb.mono hn, fun b o _ _ ho _ => (hb.block b (Array.getElem?_eq_some_iff.1 ho).1).trans ho, fun b h => .inl ((rwAt_same (hb.block B hB)).1 h)⟩

theorem ownsMap_low {w w' : World} {n : Nat} {P : Program} {k : TypeId} {R : Value → Option (DataW Unit × List MemPlace)} {b m : Nat} {D : DataW Unit} (h : w.ownsMap P k R b m D) (hb : Below n w w') (hlt : b < n) : w'.ownsMap P k R b m D := by
  obtain ⟨es, clock, h1, rest⟩ := h
  exact ⟨es, clock, (hb.block b hlt).trans h1, rest⟩

/-- what latest's iterator reads -/
structure LtS (W : World) (n₀ Bm Bi mb N K : Nat) (io : Option Addr) (icap : Nat) (D : DataW Unit) (c : Nat → Fin 5 → Value) : Prop where
  bi : W.cell? ⟨Bi, 0, none⟩ = some (.slice io N icap)
  bm : W.cell? ⟨Bm, 0, none⟩ = some (.map (some mb))
  map : W.ownsMap Try.prog 9 (plainElem Try.prog 3) mb K D
  items : ∀ i, i < N → ∃ b off, io = some ⟨b, off, none⟩ ∧ b < n₀ ∧ W.cell? ⟨b, off + i * 5, none⟩ = some (c i 0) ∧ W.cell? ⟨b, off + i * 5 + 1, none⟩ = some (c i 1) ∧ W.cell? ⟨b, off + i * 5 + 2, none⟩ = some (c i 2) ∧ W.cell? ⟨b, off + i * 5 + 3, none⟩ = some (c i 3) ∧ W.cell? ⟨b, off + i * 5 + 4, none⟩ = some (c i 4)
  lt : Bi < n₀ ∧ Bm < n₀ ∧ mb < n₀
theorem LtS.keep {W W' : World} {n₀ Bm Bi mb N K : Nat} {io : Option Addr} {icap : Nat} {D : DataW Unit} {c : Nat → Fin 5 → Value} (h : LtS W n₀ Bm Bi mb N K io icap D c) (hb : Below n₀ W W') : LtS W' n₀ Bm Bi mb N K io icap D c := by
  obtain ⟨l1, l2, l3⟩ := h.lt
  refine ⟨(hb.cell (p := ⟨_, _, _⟩) l1).trans h.bi, (hb.cell (p := ⟨_, _, _⟩) l2).trans h.bm, ownsMap_low h.map hb l3, fun i hi => ?_, h.lt⟩
  obtain ⟨b, off, e, hl, a0, a1, a2, a3, a4⟩ := h.items i hi
  exact ⟨b, off, e, hl, (hb.cell (p := ⟨_, _, _⟩) hl).trans a0, (hb.cell (p := ⟨_, _, _⟩) hl).trans a1, (hb.cell (p := ⟨_, _, _⟩) hl).trans a2, (hb.cell (p := ⟨_, _, _⟩) hl).trans a3, (hb.cell (p := ⟨_, _, _⟩) hl).trans a4⟩

/-- the row of sorted keys, and where it lies -/
structure SrS (W : World) (B M : Nat) (so : Option Addr) (S : List (List UInt8)) : Prop where
  row : 0 < M → ∃ g, so = some ⟨g, 0, none⟩ ∧ g ≠ B ∧ ¬ rwAt W B g ∧ g < W.heap.size ∧ ∀ i, i < M → W.cell? ⟨g, i, none⟩ = some (.string ⟨(S.getD i []).toArray⟩)
theorem SrS.keep {W W' : World} {n₀ B M : Nat} {so : Option Addr} {S : List (List UInt8)} (h : SrS W B M so S) (hk : KpG n₀ B W W') : SrS W' B M so S := by
  refine ⟨fun h0 => ?_⟩
  obtain ⟨g, e, h1, h2, h3, h4⟩ := h.row h0
  have hs := hk.below.size
  refine ⟨g, e, h1, fun hr => ?_, by omega, fun i hi => ?_⟩
  · rcases hk.rows g hr with hx | hx
    · exact h2 hx
    · omega
  · have hc := h4 i hi
    obtain ⟨o, ho, hoc⟩ : ∃ o : Obj, W.heap[g]? = some o ∧ o.isCells = true := by
      unfold World.cell? at hc
      cases ho : W.heap[g]? with
      | none => simp [ho] at hc
      | some o => exact ⟨o, rfl, by cases o <;> simp_all [Obj.isCells]⟩
    exact (World.cell?_of_block (a := ⟨g, i, none⟩) ((hk.same g o h1 h2 ho hoc).trans ho.symm)).trans hc

def encG (S : List (List UInt8)) (c : Nat → Fin 5 → Value) (idx : Nat → Nat) (i : Nat) : Array Value := #[.string ⟨(S.getD i []).toArray⟩, .agg #[c (idx i) 0, c (idx i) 1, c (idx i) 2, c (idx i) 3, c (idx i) 4]]
end Go.Proofs.Ytaflpeajapdkdaa
namespace Go.Proofs.Ytaflpeajapdkdaa
open Go.RowKit Go.Maps Go.Sort Go.Shelf Go.WideMaps
set_option linter.unusedVariables false
set_option linter.unusedSimpArgs false
attribute [local go_sem] Oper.semAt_some
end Go.Proofs.Ytaflpeajapdkdaa
