import Derived.Test.YtdjleoglphgdgaaGreatDoorM10
import Derived.Test.YtdjleoglphgdgaaGreatDoorM11
import Derived.Deep.RegionWith
import Derived.Deep.RegionHeld3
import Derived.Laws.MakeOwn
set_option linter.unusedVariables false
set_option linter.unusedSimpArgs false
namespace Go.Proofs.YtdjleoglphgdgaaGreatDoor
open Go.RowKit
def Bords (w:World) (p:List UInt8) (g n:Nat):Prop:=g<w.heap.size∧∀ i,i<n→∃ k:Nat,w.cell? ⟨g,i,none⟩=some (.int .i64 (k:Int))∧IsMax p k ((p.take (i+1)).tail)
theorem Bords.keep {w w':World} {p:List UInt8} {g n:Nat} (h:Bords w p g n) (hb:Below w.heap.size w w'):Bords w' p g n:=
 ⟨Nat.lt_of_lt_of_le h.1 hb.size,fun i hi=>by obtain ⟨k,h1,h2⟩:=h.2 i hi;exact ⟨k,(hb.cell (p:=⟨g,i,none⟩) h.1).trans h1,h2⟩⟩
theorem byte_eq (s:ByteArray) (k:Nat) (hk:k<s.size):s.data.toList[k]'(by rw [Array.length_toList];exact hk)=s[k]:=by
 simp [ByteArray.getElem_eq_getElem_data]
theorem q1e (s:ByteArray):s.data.toList.length=s.size:=Array.length_toList
structure BoSt (w wr:World) (p:List UInt8) (g n i:Nat):Prop where
 row:∃ cs:List Int,cs.length=n∧wr.heap[g]? =some (.cells (ivals .i64 cs).toArray 3 (0,0))
 bords:Bords wr p g i
 below:Below w.heap.size w wr
 new:w.heap.size≤g
theorem BoSt.cell {w wr:World} {p:List UInt8} {g n i:Nat} (h:BoSt w wr p g n i) (j:Nat) (hj:j<n):∃ v,wr.cell? ⟨g,j,none⟩=some v:=by
 obtain ⟨cs,hl,hg⟩:=h.row;refine ⟨.int .i64 (cs.getD j 0),?_⟩;rw [cell_of_row wr g j _ _ _ hg];simp [ivals,List.getD,hl,hj]
theorem BoSt.free {w wr:World} {p:List UInt8} {g n i:Nat} (h:BoSt w wr p g n i) (j:Nat):wr.frozen? ⟨g,j,none⟩=false:=by
 obtain ⟨cs,hl,hg⟩:=h.row;exact frozen_of_row wr g j _ _ hg
theorem BoSt.step {w wr:World} {p:List UInt8} {g n i k:Nat} (h:BoSt w wr p g n i) (hi:i<n) (hm:IsMax p k ((p.take (i+1)).tail)):BoSt w (wr.setCell ⟨g,i,none⟩ (.int .i64 (k:Int))) p g n (i+1):=by
 obtain ⟨cs,hl,hg⟩:=h.row;refine ⟨⟨cs.set i (k:Int),by rw [List.length_set];exact hl,?_⟩,⟨by simp;exact h.bords.1,fun j hj=> ?_⟩,h.below.setCell (p:=⟨g,i,none⟩) h.new _,h.new⟩
 · have h1:(wr.setCell ⟨g,i,none⟩ (.int .i64 (k:Int))).heap[g]? =some (.cells ((ivals .i64 cs).toArray.setIfInBounds i (.int .i64 (k:Int))) 3 (0,0)):=heap_setCell_same wr g i _ _ _ hg;rw [h1];simp [ivals,List.map_set]
 · by_cases he:j=i
   · subst he;obtain ⟨v,hv⟩:=h.cell j hi;exact ⟨k,World.cell?_setCell_same _ _ _ hv,hm⟩
   · obtain ⟨k',h1,h2⟩:=h.bords.2 j (by omega);exact ⟨k',by rw [World.cell?_setCell_other _ _ _ _ (by simp <;> omega)];exact h1,h2⟩
end Go.Proofs.YtdjleoglphgdgaaGreatDoor
