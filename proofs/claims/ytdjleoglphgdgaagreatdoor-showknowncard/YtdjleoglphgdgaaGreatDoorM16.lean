import Derived.Test.YtdjleoglphgdgaaGreatDoorM13
import Derived.Test.YtdjleoglphgdgaaGreatDoorM11
set_option linter.unusedVariables false
set_option linter.unusedSimpArgs false
namespace Go.Proofs.YtdjleoglphgdgaaGreatDoor
open Go.RowKit
def Head (k:IntKind) (w:World) (g n cap:Nat) (xs:List Int):Prop:=xs.length=n∧n≤cap∧g<w.heap.size∧∀ i,i<n→w.cell? ⟨g,i,none⟩=some (.int k (xs.getD i 0))
theorem Head.keep {k:IntKind} {w w':World} {g n cap:Nat} {xs:List Int} (h:Head k w g n cap xs) (hb:Below w.heap.size w w'):Head k w' g n cap xs:=
 ⟨h.1,h.2.1,Nat.lt_of_lt_of_le h.2.2.1 hb.size,fun i hi=>(hb.cell (p:=⟨g,i,none⟩) h.2.2.1).trans (h.2.2.2 i hi)⟩
def BRow (w:World) (g:Nat) (l:List UInt8):Prop:=w.heap[g]? =some (.cells (Lib.byteCells l).toArray 5 (0,0))
theorem BRow.set {w:World} {g:Nat} {l:List UInt8} (h:BRow w g l) (i:Nat) (c:UInt8) (z:Int) (hz:z=(c.toNat:Int)) (hi:i<l.length):BRow (w.setCell ⟨g,i,none⟩ (.int .u8 z)) g (l.set i c):=by
 unfold BRow at *;subst hz;rw [heap_setCell_same w g i _ _ _ h]
 congr 2
 rw [List.setIfInBounds_toArray];simp [Lib.byteCells,List.map_set]
theorem BRow.lt {w:World} {g:Nat} {l:List UInt8} (h:BRow w g l):g<w.heap.size:=(Array.getElem?_eq_some_iff.1 h).1
theorem BRow.free {w:World} {g:Nat} {l:List UInt8} (h:BRow w g l) (i:Nat):w.frozen? ⟨g,i,none⟩=false:=frozen_of_row w g i _ _ h
theorem BRow.cell {w:World} {g:Nat} {l:List UInt8} (h:BRow w g l) (i:Nat) (hi:i<l.length):w.cell? ⟨g,i,none⟩=some (.int .u8 ((l.getD i 0).toNat:Int)):=by
 rw [cell_of_row w g i _ _ _ h];simp [Lib.byteCells,hi]
theorem own_below' {w w1:World} {B e size n:Nat} {v:Value} {xs:List Value} (h:w.ownsRow B e size v n xs) (hb:Below w.heap.size w w1):w1.ownsRow B e size v n xs:=by
 refine ⟨h.1,?_⟩;rcases h.2 with h0|⟨g,cap,cur,hv,hb',hg,rest⟩
 · exact .inl h0
 · refine .inr ⟨g,cap,cur,hv,hb',?_,rest⟩;rw [hb.block g (Array.getElem?_eq_some_iff.1 hg).1];exact hg
def stands (s:ByteArray) (f:Nat) (l:List UInt8):Prop:=f+l.length≤s.size∧∀ j,j<l.length→s.data.toList.getD (f+j) 0=l.getD j 0
instance (s:ByteArray) (f:Nat) (l:List UInt8):Decidable (stands s f l):=inferInstanceAs (Decidable (_∧_))
def nv (b:Nat→Nat) (sub:Nat):Nat→Int
 | 0=>(b 0:Int)-(sub:Int)
 | k+1=>64*nv b sub k+(b (k+1):Int)-128
theorem ofNat_toNat {x:Nat} (h:x<256):(UInt8.ofNat x).toNat=x:=by simp;omega
def pz:Obj:= .cells #[.int .i64 0,.int .i64 0,.int .i64 0,.bool false] 111
structure PB (w u:World):Prop where
 row:u.heap[w.heap.size]? =some pz
 below:Below w.heap.size w u
theorem PB.keep {w u u':World} (h:PB w u) (hb:Below u.heap.size u u'):PB w u':=
 ⟨by have hl:=(Array.getElem?_eq_some_iff.1 h.row).1
     rw [hb.block _ hl];exact h.row,h.below.trans (hb.mono h.below.size)⟩
theorem PB.new (w:World):PB w (w.alloc pz):=⟨heap_alloc_new w pz,q0a w pz⟩
theorem PB.cell {w u:World} (h:PB w u) (i:Nat) (v:Value) (hv:(#[.int .i64 0,.int .i64 0,.int .i64 0,.bool false]:Array Value)[i]? =some v):u.cell? ⟨w.heap.size,i,none⟩=some v:=by
 rw [cell_of_row u w.heap.size i _ _ _ h.row];exact hv
theorem PB.free {w u:World} (h:PB w u) (i:Nat):u.frozen? ⟨w.heap.size,i,none⟩=false:=frozen_of_row u w.heap.size i _ _ h.row
end Go.Proofs.YtdjleoglphgdgaaGreatDoor
