import Derived.RangeFuncNested
import Derived.RangeFuncBound
import Derived.RangeFuncCalls
import Derived.RangeFuncLeaves
import Derived.RangeFuncBox
import Derived.Shelf.Abstract
import Derived.Shelf.RegionOpen
import Derived.WalkKit
import Derived.OwnWalkIn
import Derived.TacticsInMore
import Derived.LoopNIn
import Derived.LoopIn
import Derived.Maps.OwnIn
import Derived.Maps.AppendAt
import Derived.Test.YtcadknhedfnaoaaGreatDoorM14
namespace Go.Proofs.YtcadknhedfnaoaaGreatDoor
open Go.RowKit Go.Shelf
set_option linter.unusedVariables false
set_option linter.unusedSimpArgs false
attribute [local go_sem] Oper.semAt_some

/-- the block of the row that the variable in box B holds -/
def rowAt (W : World) (B : Nat) : Option Nat := (W.cell? ⟨B, 0, none⟩).bind Value.ownBlock

/-- what a round that collects into box B, and writes into the boxes E alone, keeps -/
structure KpB (E : Nat → Prop) (B : Nat) (W W' : World) : Prop where
  size : W.heap.size ≤ W'.heap.size
  same : ∀ b o, ¬ E b → rowAt W B ≠ some b → W.heap[b]? = some o → o.isCells = true → W'.heap[b]? = some o
  row : rowAt W' B = rowAt W B ∨ ∃ b', rowAt W' B = some b' ∧ W.heap.size ≤ b'

theorem KpB.trans {E : Nat → Prop} {B : Nat} {X Y Z : World} (h : KpB E B X Y) (k : KpB E B Y Z) : KpB E B X Z := by
  refine ⟨Nat.le_trans h.size k.size, fun b o hb hr ho hc => ?_, ?_⟩
  · have h1 := h.same b o hb hr ho hc
    refine k.same b o hb ?_ h1 hc
    rcases h.row with e | ⟨b', e, hle⟩
    · rw [e]; exact hr
    · rw [e]
      intro e2
      cases e2
      have := (Array.getElem?_eq_some_iff.1 ho).1
      omega
  · rcases k.row with e | ⟨b', e, hle⟩
    · rw [e]; exact h.row
    · exact .inr ⟨b', e, Nat.le_trans h.size hle⟩
theorem KpB.put {E : Nat → Prop} {B : Nat} {w : World} (hB : B < w.heap.size) (W : World) (l : Nat) (o o' : Obj) (hl : w.heap.size ≤ l) (h : W.heap[l]? = some o) (hc : o.isCells = false) (_ : o.isWalk = false) : KpB E B W (W.putObj l o') := by
  have hlt := (Array.getElem?_eq_some_iff.1 h).1
  refine ⟨(grownBy_putObj' W l o').size, fun b x hb hr hx hxc => ?_, .inl ?_⟩
  · rw [World.putObj_heap_other (by rintro rfl; rw [h] at hx; cases hx; rw [hc] at hxc; cases hxc)]; exact hx
  · unfold rowAt
    rw [World.cell?_of_block (w := W) (w' := W.putObj l o') (a := ⟨B, 0, none⟩) (World.putObj_heap_other (by show B ≠ l; omega))]
theorem isCells_of_cell {W : World} {a : Addr} {v : Value} (h : W.cell? a = some v) : ∃ o : Obj, W.heap[a.block]? = some o ∧ o.isCells = true := by
  unfold World.cell? at h
  cases ho : W.heap[a.block]? with
  | none => simp [ho] at h
  | some o => exact ⟨o, rfl, by cases o <;> simp_all [Obj.isCells]⟩
theorem KpB.cell {E : Nat → Prop} {B : Nat} {W W' : World} (h : KpB E B W W') {a : Addr} {v : Value} (hv : W.cell? a = some v) (hb : ¬ E a.block) (hr : rowAt W B ≠ some a.block) : W'.cell? a = some v := by
  obtain ⟨o, ho, hc⟩ := isCells_of_cell hv
  rw [World.cell?_of_block (w := W) (w' := W') ((h.same _ o hb hr ho hc).trans ho.symm)]
  exact hv
theorem rowAt_below {W W' : World} {B : Nat} (h : Below W.heap.size W W') (hB : B < W.heap.size) : rowAt W' B = rowAt W B := by
  unfold rowAt; rw [h.cell (p := ⟨B, 0, none⟩) hB]

theorem gr_of_below {w w' : World} (h : Below w.heap.size w w') : w.grownBy w' none := ⟨h.os, h.tape, h.output, h.size, fun k hk _ => h.block k hk⟩
theorem ab_below {β : Type} {B : Nat} {J : β → World → Prop} (hJ : AbidesFrom B J) {s : β} {w w' : World} (h : J s w) (hb : Below w.heap.size w w') : J s w' := hJ s w w' none h (gr_of_below hb) (fun r e => by cases e)

/-- what the walk of the places holds between two rounds -/
structure PlSt (E : Nat → Prop) (J : List Nat → World → Prop) (p t : List UInt8) (B Bp Bs g i k : Nat) (pb sb : ByteArray) (wr : World) : Prop where
  max : IsMax p k (t.take i)
  inv : J (occs p t i) wr
  bords : Bords wr p g p.length
  cp : wr.cell? ⟨Bp, 0, none⟩ = some (.string pb)
  cs : wr.cell? ⟨Bs, 0, none⟩ = some (.string sb)
  row : rowAt wr B = none ∨ ∃ b', rowAt wr B = some b' ∧ g < b'
  lt : Bp < g ∧ Bs < g ∧ B < g ∧ g < wr.heap.size ∧ ¬ E Bp ∧ ¬ E Bs ∧ ¬ E g

theorem PlSt.rowNe {E : Nat → Prop} {J : List Nat → World → Prop} {p t : List UInt8} {B Bp Bs g i k : Nat} {pb sb : ByteArray} {wr : World} (h : PlSt E J p t B Bp Bs g i k pb sb wr) {b : Nat} (hb : b ≤ g) : rowAt wr B ≠ some b := by
  rcases h.row with e | ⟨b', e, hlt⟩
  · rw [e]; simp
  · rw [e]; intro e2; cases e2; omega

theorem PlSt.round {E : Nat → Prop} {J : List Nat → World → Prop} {p t : List UInt8} {B Bp Bs g i k k' : Nat} {pb sb : ByteArray} {wr W' : World} (h : PlSt E J p t B Bp Bs g i k pb sb wr) (hk : KpB E B wr.drew W') (hm : IsMax p k' (t.take (i + 1))) (hj : J (occs p t (i + 1)) W') : PlSt E J p t B Bp Bs g (i + 1) k' pb sb W' := by
  obtain ⟨l1, l2, l3, l4, n1, n2, n3⟩ := h.lt
  have hs : wr.heap.size ≤ W'.heap.size := hk.size
  refine ⟨hm, hj, ⟨by omega, fun j hj => ?_⟩, hk.cell (a := ⟨Bp, 0, none⟩) h.cp n1 (h.rowNe (by show Bp ≤ g; omega)), hk.cell (a := ⟨Bs, 0, none⟩) h.cs n2 (h.rowNe (by show Bs ≤ g; omega)), ?_, ⟨l1, l2, l3, by omega, n1, n2, n3⟩⟩
  · obtain ⟨m, c, hx⟩ := h.bords.2 j hj
    exact ⟨m, hk.cell (a := ⟨g, j, none⟩) c n3 (h.rowNe (Nat.le_refl _)), hx⟩
  · rcases hk.row with e | ⟨b', e, hle⟩
    · rw [e]; exact h.row
    · have : wr.heap.size ≤ b' := hle
      exact .inr ⟨b', e, by omega⟩
theorem KpB.refl (E : Nat → Prop) (B : Nat) (W : World) : KpB E B W W := ⟨Nat.le_refl _, fun _ _ _ _ h _ => h, .inl rfl⟩

theorem occs_yes {p t : List UInt8} {i : Nat} (hi : i < t.length) (h : p <:+ t.take (i + 1)) : p.length ≤ i + 1 ∧ occs p t (i + 1) = occs p t i ++ [i + 1 - p.length] := by
  have hl := h.length_le
  rw [List.length_take] at hl
  have h1 : p.length ≤ i + 1 := by omega
  refine ⟨h1, ?_⟩
  rw [occs_up, if_pos ⟨h1, (occ_end hi (by omega)).1 h⟩]
theorem occs_no {p t : List UInt8} {i : Nat} (hi : i < t.length) (h : ¬ p <:+ t.take (i + 1)) : occs p t (i + 1) = occs p t i := by
  rw [occs_up, if_neg (fun hc => h ((occ_end hi (by omega)).2 hc.2)), List.append_nil]

/-- the places of p in t -/
def plcs (s p : ByteArray) : List Nat := if p.size = 0 then [] else occs p.data.toList s.data.toList s.size
theorem plcs_none {s p : ByteArray} (h : p.size = 0 ∨ s.size < p.size) : plcs s p = [] := by
  unfold plcs
  split
  · rfl
  · rename_i h0
    have hl : 0 < p.data.toList.length := by rw [size_len]; omega
    apply List.eq_nil_iff_forall_not_mem.2
    intro q hq
    have := ((occs_mem hl).1 hq).1
    rw [size_len] at this
    omega
end Go.Proofs.YtcadknhedfnaoaaGreatDoor
