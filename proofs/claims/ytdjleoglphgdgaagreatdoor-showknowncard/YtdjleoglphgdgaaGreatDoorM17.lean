import Derived.Test.YtdjleoglphgdgaaGreatDoorM16
set_option linter.unusedVariables false
set_option linter.unusedSimpArgs false
namespace Go.Proofs.YtdjleoglphgdgaaGreatDoor
open Go.RowKit
def pcC (s:ByteArray) (f:Nat):List Value:=[.int .i64 (f:Int),.int .i64 ((f+(decL (s.data.toList.drop f)).2:Nat):Int),.int .i64 ((decL (s.data.toList.drop f)).1:Int),.bool (q0U (s.data.toList.drop f))]
def prow (s:ByteArray) (n:Nat):List Value:=(List.range n).flatMap fun k=>pcC s (off s.data.toList k)
theorem prow_up (s:ByteArray) (n:Nat):prow s (n+1)=prow s n++pcC s (off s.data.toList n):=by unfold prow;rw [List.range_succ,List.flatMap_append];simp
theorem prow_lenV (s:ByteArray) (n:Nat):(prow s n).length=n*4:=by
 induction n with
 | zero=>rfl
 | succ n ih=>rw [prow_up,List.length_append,ih];simp [pcC];omega
theorem prow_getV (s:ByteArray) {k N:Nat} (h:k<N) (j:Nat) (hj:j<4):(prow s N)[k*4+j]? =(pcC s (off s.data.toList k))[j]? :=by
 obtain ⟨m,rfl⟩:∃ m,N=(k+1)+m:=⟨N-(k+1),by omega⟩
 induction m with
 | zero=>
  rw [Nat.add_zero,prow_up,List.getElem?_append_right (by rw [prow_lenV];omega),prow_lenV]
  congr 1;omega
 | succ m ih=>
  rw [show k+1+(m+1)=k+1+m+1 by omega,prow_up,List.getElem?_append_left (by rw [prow_lenV];omega)];exact ih (by omega)
structure PRowV (s:ByteArray) (w:World) (g:Nat):Prop where
 row:∃ cur,w.heap[g]? =some (.cells cur 111 (0,0))∧cur.toList.take ((q18 s.data.toList).length*4)=prow s (q18 s.data.toList).length
theorem PRowV.get {s:ByteArray} {w:World} {g k:Nat} (h:PRowV s w g) (hk:k<(q18 s.data.toList).length) (j:Nat) (hj:j<4):w.cell? ⟨g,k*4+j,none⟩=(pcC s (off s.data.toList k))[j]? :=by
 obtain ⟨cur,h1,h2⟩:=h.row;rw [cell_of_row w g _ _ _ _ h1,← prow_getV s hk j hj,← h2,List.getElem?_take,if_pos (by omega),Array.getElem?_toList]
end Go.Proofs.YtdjleoglphgdgaaGreatDoor
