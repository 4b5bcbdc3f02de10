import Derived.Test.YtdjleoglphgdgaaGreatDoorM16
import Derived.Test.YtdjleoglphgdgaaGreatDoorM18
import Derived.Test.YtdjleoglphgdgaaGreatDoorM19
import Derived.Deep.AppendLies
import Derived.Test.YtdjleoglphgdgaaGreatDoorM25
import Derived.Test.YtdjleoglphgdgaaGreatDoorM13
set_option linter.unusedVariables false
set_option linter.unusedSimpArgs false
namespace Go.Proofs.YtdjleoglphgdgaaGreatDoor
open Go.RowKit
theorem BRow.keep {w w':World} {g:Nat} {l:List UInt8} (h:BRow w g l) (hb:Below w.heap.size w w'):BRow w' g l:=by
 unfold BRow at *;rw [hb.block g (Array.getElem?_eq_some_iff.1 h).1];exact h
end Go.Proofs.YtdjleoglphgdgaaGreatDoor
set_option linter.unusedVariables false
set_option linter.unusedSimpArgs false
namespace Go.Proofs.YtdjleoglphgdgaaGreatDoor
open Go.RowKit
theorem prow_len (s:ByteArray) (n:Nat):(prow s n).length=n*4:=by
 induction n with
 | zero=>rfl
 | succ n ih=>rw [prow_up,List.length_append,ih];simp [pcC];omega
theorem prow_get (s:ByteArray) {k N:Nat} (h:k<N) (j:Nat) (hj:j<4):(prow s N)[k*4+j]? =(pcC s (off s.data.toList k))[j]? :=by
 obtain ⟨m,rfl⟩:∃ m,N=(k+1)+m:=⟨N-(k+1),by omega⟩
 induction m with
 | zero=>
  rw [Nat.add_zero,prow_up,List.getElem?_append_right (by rw [prow_len];omega),prow_len]
  congr 1;omega
 | succ m ih=>
  rw [show k+1+(m+1)=k+1+m+1 by omega,prow_up,List.getElem?_append_left (by rw [prow_len];omega)];exact ih (by omega)
structure PRow (s:ByteArray) (w:World) (g:Nat):Prop where
 row:∃ cur,w.heap[g]? =some (.cells cur 111 (0,0))∧cur.toList.take ((q18 s.data.toList).length*4)=prow s (q18 s.data.toList).length
theorem PRow.get {s:ByteArray} {w:World} {g k:Nat} (h:PRow s w g) (hk:k<(q18 s.data.toList).length) (j:Nat) (hj:j<4):w.cell? ⟨g,k*4+j,none⟩=(pcC s (off s.data.toList k))[j]? :=by
 obtain ⟨cur,h1,h2⟩:=h.row;rw [cell_of_row w g _ _ _ _ h1,← prow_get s hk j hj,← h2,List.getElem?_take,if_pos (by omega),Array.getElem?_toList]
theorem PRow.keep {s:ByteArray} {w w':World} {g:Nat} (h:PRow s w g) (hb:Below w.heap.size w w'):PRow s w' g:=by
 obtain ⟨cur,h1,h2⟩:=h.row;exact ⟨cur,by rw [hb.block g (Array.getElem?_eq_some_iff.1 h1).1];exact h1,h2⟩
end Go.Proofs.YtdjleoglphgdgaaGreatDoor
set_option linter.unusedVariables false
set_option linter.unusedSimpArgs false
namespace Go.Proofs.YtdjleoglphgdgaaGreatDoor
open Go.RowKit
structure RQ (w wr:World) (v:Value) (n:Nat) (l:List UInt8):Prop where
 own:wr.ownsRow w.heap.size 5 1 v n (Lib.byteCells l)
 len:l.length=n
 below:Below w.heap.size w wr
theorem RQ.keep {w wr w':World} {v:Value} {n:Nat} {l:List UInt8} (h:RQ w wr v n l) (hb:Below wr.heap.size wr w'):RQ w w' v n l:=⟨own_below' h.own hb,h.len,h.below.trans (hb.mono h.below.size)⟩
end Go.Proofs.YtdjleoglphgdgaaGreatDoor
