import Derived.Test.YtdjleoglphgdgaaGreatDoorM9
import Derived.Deep.QuietTactic
import Derived.BigQuiet
set_option linter.unusedVariables false
set_option linter.unusedSimpArgs false
namespace Go.Proofs.YtdjleoglphgdgaaGreatDoor
open Go.RowKit
structure LetSt (w wr:World) (l:List UInt8):Prop where
 row:∃ (tail:List Value) (fr:Nat × Nat),wr.heap[w.heap.size]? =some (.cells (Lib.byteCells l++tail).toArray 5 fr)∧l.length≤fr.1
 below:Below w.heap.size w wr
theorem bc_len (l:List UInt8):(Lib.byteCells l).length=l.length:=by simp [Lib.byteCells]
theorem LetSt.cell {w wr:World} {l:List UInt8} (h:LetSt w wr l) (j:Nat) (hj:j<l.length):wr.cell? ⟨w.heap.size,j,none⟩=some (.int .u8 ((l.getD j 0).toNat:Int))∧wr.frozen? ⟨w.heap.size,j,none⟩=false:=by
 obtain ⟨tail,fr,h1,h2⟩:=h.row;constructor
 · rw [cell_of_row _ _ _ _ _ _ h1,List.getElem?_toArray,List.getElem?_append_left (by rw [bc_len];exact hj)];simp [Lib.byteCells,hj]
 · simp only [World.frozen?,h1];simp;omega
theorem LetSt.set {w wr:World} {l:List UInt8} (h:LetSt w wr l) (j:Nat) (c:UInt8) (hj:j<l.length):LetSt w (wr.setCell ⟨w.heap.size,j,none⟩ (.int .u8 (c.toNat:Int))) (l.set j c):=by
 obtain ⟨tail,fr,h1,h2⟩:=h.row;refine ⟨⟨tail,fr,?_,by simpa using h2⟩,h.below.setCell (Nat.le_refl _) _⟩;rw [setCell_eq_setRow _ _ _ _ _ _ _ h1,setRow_heap _ _ _ _ _ _ h1]
 congr 2
 rw [List.setIfInBounds_toArray,List.set_append_left _ _ (by rw [bc_len];exact hj)];simp [Lib.byteCells,List.map_set]
def turnB (a b:Nat) (c:UInt8):UInt8:=if a≤c.toNat∧c.toNat≤b then UInt8.ofNat (c.toNat ^^^ 32) else c
def low (s:ByteArray):ByteArray:=⟨(s.data.toList.map (turnB 65 90)).toArray⟩
end Go.Proofs.YtdjleoglphgdgaaGreatDoor
