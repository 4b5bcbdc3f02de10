import Derived.RangeFuncNested
import Derived.RangeFuncBound
import Derived.RangeFuncCalls
import Derived.RangeFuncLeaves
import Derived.RangeFuncBox
import Derived.Shelf.Abstract
import Derived.Shelf.RegionOpen
import Derived.WalkKit
import Derived.OwnWalkIn
import Derived.TacticsInMore
import Derived.LoopNIn
import Derived.LoopIn
import Derived.Maps.OwnIn
import Derived.Maps.AppendAt
import Derived.Test.YtdjleoglphgdgaaGreatDoorM17
set_option linter.unusedVariables false
set_option linter.unusedSimpArgs false
namespace Go.Proofs.YtdjleoglphgdgaaGreatDoor
open Go.RowKit Go.Shelf
attribute [local go_sem] Oper.semAt_some
def rowAt (W:World) (B:Nat):Option Nat:=(W.cell? ⟨B,0,none⟩).bind Value.ownBlock
structure KpB (E:Nat→Prop) (B:Nat) (W W':World):Prop where
 size:W.heap.size≤W'.heap.size
 same:∀ b o,¬ E b→rowAt W B≠some b→W.heap[b]? =some o→o.isCells=true→W'.heap[b]? =some o
 row:rowAt W' B=rowAt W B∨∃ b',rowAt W' B=some b'∧W.heap.size≤b'
theorem KpB.trans {E:Nat→Prop} {B:Nat} {X Y Z:World} (h:KpB E B X Y) (k:KpB E B Y Z):KpB E B X Z:=by
 refine ⟨Nat.le_trans h.size k.size,fun b o hb hr ho hc=> ?_,?_⟩
 · have h1:=h.same b o hb hr ho hc;refine k.same b o hb ?_ h1 hc;rcases h.row with e|⟨b',e,hle⟩
   · rw [e];exact hr
   · rw [e];intro e2
     cases e2
     have:=(Array.getElem?_eq_some_iff.1 ho).1;omega
 · rcases k.row with e|⟨b',e,hle⟩
   · rw [e];exact h.row
   · exact .inr ⟨b',e,Nat.le_trans h.size hle⟩
theorem KpB.put {E:Nat→Prop} {B:Nat} {w:World} (hB:B<w.heap.size) (W:World) (l:Nat) (o o':Obj) (hl:w.heap.size≤l) (h:W.heap[l]? =some o) (hc:o.isCells=false) (_:o.isWalk=false):KpB E B W (W.putObj l o'):=by
 have hlt:=(Array.getElem?_eq_some_iff.1 h).1;refine ⟨(grownBy_putObj' W l o').size,fun b x hb hr hx hxc=> ?_,.inl ?_⟩
 · rw [World.putObj_heap_other (by rintro rfl;rw [h] at hx;cases hx;rw [hc] at hxc;cases hxc)];exact hx
 · unfold rowAt;rw [World.cell?_of_block (w:=W) (w':=W.putObj l o') (a:=⟨B,0,none⟩) (World.putObj_heap_other (by show B≠l;omega))]
theorem q28 {W:World} {a:Addr} {v:Value} (h:W.cell? a=some v):∃ o:Obj,W.heap[a.block]? =some o∧o.isCells=true:=by
 unfold World.cell? at h
 cases ho:W.heap[a.block]? with
 | none=>simp [ho] at h
 | some o=>exact ⟨o,rfl,by cases o <;> simp_all [Obj.isCells]⟩
theorem KpB.cell {E:Nat→Prop} {B:Nat} {W W':World} (h:KpB E B W W') {a:Addr} {v:Value} (hv:W.cell? a=some v) (hb:¬ E a.block) (hr:rowAt W B≠some a.block):W'.cell? a=some v:=by
 obtain ⟨o,ho,hc⟩:=q28 hv;rw [World.cell?_of_block (w:=W) (w':=W') ((h.same _ o hb hr ho hc).trans ho.symm)];exact hv
theorem KpB.refl (E:Nat→Prop) (B:Nat) (W:World):KpB E B W W:=⟨Nat.le_refl _,fun _ _ _ _ h _=>h,.inl rfl⟩
end Go.Proofs.YtdjleoglphgdgaaGreatDoor
