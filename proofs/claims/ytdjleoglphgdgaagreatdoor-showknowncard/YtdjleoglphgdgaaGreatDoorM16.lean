import Derived.Test.YtdjleoglphgdgaaGreatDoorM13
import Derived.Test.YtdjleoglphgdgaaGreatDoorM11
set_option linter.unusedVariables false
set_option linter.unusedSimpArgs false
namespace Go.Proofs.YtdjleoglphgdgaaGreatDoor
open Go.RowKit
theorem encodeRune_rn (r:Int):Lib.encodeRune r=enc (rn r):=by
 cases hv:Lib.validRune r with
 | true=>
  have hv':decide ((0≤r∧r<0xD800)∨(0xDFFF<r∧r≤0x10FFFF))=true:=hv;have h:=of_decide_eq_true hv';have e:rn r=r.toNat:=by unfold rn;rw [hv];rfl
  have:=q2i (rn r) (rn_isR r);rw [show ((rn r:Nat):Int)=r by rw [e];omega] at this;exact this
 | false=>
  have hv':decide ((0≤r∧r<0xD800)∨(0xDFFF<r∧r≤0x10FFFF))=false:=hv;have h:=of_decide_eq_false hv';have e:rn r=65533:=by unfold rn;rw [hv];rfl
  rw [e,q2t];unfold Lib.encodeRune Lib.encodeRuneZ;rw [if_neg (by omega),if_neg (by omega),if_neg (by omega),if_neg (by omega)];rfl
inductive VT where
 | mk (kind:Int) (num text:ByteArray) (items:List VT) (keys:List ByteArray)
def VT.kind:VT→Int| .mk k _ _ _ _=>k
def VT.num:VT→ByteArray| .mk _ n _ _ _=>n
def VT.text:VT→ByteArray| .mk _ _ t _ _=>t
def VT.items:VT→List VT| .mk _ _ _ i _=>i
def VT.keys:VT→List ByteArray| .mk _ _ _ _ k=>k
structure KIn (W:World) (ko:Option Addr) (keys:List ByteArray):Prop where
 row:0<keys.length→∃ b off,ko=some ⟨b,off,none⟩∧b<W.heap.size∧∀ i,i<keys.length→W.cell? ⟨b,off+i,none⟩=some (.string (keys.getD i .empty))
theorem KIn.keep {W W':World} {ko:Option Addr} {keys:List ByteArray} (h:KIn W ko keys) (hb:Below W.heap.size W W'):KIn W' ko keys:=by
 refine ⟨fun h0=> ?_⟩;obtain ⟨b,off,e,hl,hc⟩:=h.row h0;exact ⟨b,off,e,Nat.lt_of_lt_of_le hl hb.size,fun i hi=>(hb.cell (p:=⟨b,off+i,none⟩) hl).trans (hc i hi)⟩
def InH (W:World):Nat→VT→Value→Prop
 | 0,_,_=>False
 | h+1,T,v=>∃ (io:Option Addr) (icap:Nat) (ko:Option Addr) (kcap:Nat),
    v= .agg #[.int .i64 T.kind,.string T.num,.string T.text,.slice io T.items.length icap,.slice ko T.keys.length kcap]∧
    T.num.size≤140737488355328∧T.text.size≤140737488355328∧T.items.length≤140737488355328∧T.keys.length≤140737488355328∧T.items.length≤icap∧T.keys.length≤kcap∧
    (∀ k∈T.keys,k.size≤140737488355328)∧KIn W ko T.keys∧
    (0<T.items.length→∃ b off,io=some ⟨b,off,none⟩∧b<W.heap.size∧∀ i,(hi:i<T.items.length)→∃ v0 v1 v2 v3 v4:Value,
     (W.cell? ⟨b,off+i*5,none⟩=some v0∧W.cell? ⟨b,off+i*5+1,none⟩=some v1∧W.cell? ⟨b,off+i*5+2,none⟩=some v2∧W.cell? ⟨b,off+i*5+3,none⟩=some v3∧W.cell? ⟨b,off+i*5+4,none⟩=some v4)∧InH W h T.items[i] (.agg #[v0,v1,v2,v3,v4]))
theorem InH.keep {W W':World} (hb:Below W.heap.size W W'):∀ {h:Nat} {T:VT} {v:Value},InH W h T v→InH W' h T v
 | 0,_,_,h=>h
 | h+1,T,v,hI=>by
  obtain ⟨io,icap,ko,kcap,e,a1,a2,a3,a4,a5,a6,a7,hk,hi⟩:=hI;refine ⟨io,icap,ko,kcap,e,a1,a2,a3,a4,a5,a6,a7,hk.keep hb,fun h0=> ?_⟩;obtain ⟨b,off,e2,hl,hc⟩:=hi h0;refine ⟨b,off,e2,Nat.lt_of_lt_of_le hl hb.size,fun i hil=> ?_⟩;obtain ⟨v0,v1,v2,v3,v4,⟨c0,c1,c2,c3,c4⟩,ht⟩:=hc i hil;exact ⟨v0,v1,v2,v3,v4,⟨(hb.cell (p:=⟨_,_,_⟩) hl).trans c0,(hb.cell (p:=⟨_,_,_⟩) hl).trans c1,(hb.cell (p:=⟨_,_,_⟩) hl).trans c2,(hb.cell (p:=⟨_,_,_⟩) hl).trans c3,(hb.cell (p:=⟨_,_,_⟩) hl).trans c4⟩,InH.keep hb ht⟩
structure IIn (W:World) (h:Nat) (io:Option Addr) (ts:List VT):Prop where
 row:0<ts.length→∃ b off,io=some ⟨b,off,none⟩∧b<W.heap.size∧∀ i,(hi:i<ts.length)→∃ v0 v1 v2 v3 v4:Value,
     (W.cell? ⟨b,off+i*5,none⟩=some v0∧W.cell? ⟨b,off+i*5+1,none⟩=some v1∧W.cell? ⟨b,off+i*5+2,none⟩=some v2∧W.cell? ⟨b,off+i*5+3,none⟩=some v3∧W.cell? ⟨b,off+i*5+4,none⟩=some v4)∧InH W h ts[i] (.agg #[v0,v1,v2,v3,v4])
theorem IIn.keep {W W':World} {h:Nat} {io:Option Addr} {ts:List VT} (hI:IIn W h io ts) (hb:Below W.heap.size W W'):IIn W' h io ts:=by
 refine ⟨fun h0=> ?_⟩;obtain ⟨b,off,e2,hl,hc⟩:=hI.row h0;refine ⟨b,off,e2,Nat.lt_of_lt_of_le hl hb.size,fun i hil=> ?_⟩;obtain ⟨v0,v1,v2,v3,v4,⟨c0,c1,c2,c3,c4⟩,ht⟩:=hc i hil;exact ⟨v0,v1,v2,v3,v4,⟨(hb.cell (p:=⟨_,_,_⟩) hl).trans c0,(hb.cell (p:=⟨_,_,_⟩) hl).trans c1,(hb.cell (p:=⟨_,_,_⟩) hl).trans c2,(hb.cell (p:=⟨_,_,_⟩) hl).trans c3,(hb.cell (p:=⟨_,_,_⟩) hl).trans c4⟩,InH.keep hb ht⟩
structure VBx (w u:World) (a b c d e:Value):Prop where
 below:Below w.heap.size w u
 c0:u.cell? ⟨w.heap.size,0,none⟩=some a
 c1:u.cell? ⟨w.heap.size,1,none⟩=some b
 c2:u.cell? ⟨w.heap.size,2,none⟩=some c
 c3:u.cell? ⟨w.heap.size,3,none⟩=some d
 c4:u.cell? ⟨w.heap.size,4,none⟩=some e
 lt:w.heap.size<u.heap.size
theorem VBx.keep {w u u':World} {a b c d e:Value} (h:VBx w u a b c d e) (hb:Below u.heap.size u u'):VBx w u' a b c d e:=
 ⟨h.below.trans (hb.mono h.below.size),(hb.cell (p:=⟨_,_,_⟩) h.lt).trans h.c0,(hb.cell (p:=⟨_,_,_⟩) h.lt).trans h.c1,(hb.cell (p:=⟨_,_,_⟩) h.lt).trans h.c2,(hb.cell (p:=⟨_,_,_⟩) h.lt).trans h.c3,(hb.cell (p:=⟨_,_,_⟩) h.lt).trans h.c4,Nat.lt_of_lt_of_le h.lt hb.size⟩
theorem VBx.drew {w u:World} {a b c d e:Value} (h:VBx w u a b c d e):VBx w u.drew a b c d e:=⟨h.below.drew,h.c0,h.c1,h.c2,h.c3,h.c4,h.lt⟩
theorem vbx_new (w:World) (a b c d e:Value):VBx w (w.alloc (.cells #[a,b,c,d,e] 25)) a b c d e:=
 ⟨(Below.refl _ _).alloc (Nat.le_refl _) _,by simp [go_sem],by simp [go_sem],by simp [go_sem],by simp [go_sem],by simp [go_sem],by simp⟩
end Go.Proofs.YtdjleoglphgdgaaGreatDoor
set_option linter.unusedVariables false
set_option linter.unusedSimpArgs false
namespace Go.Proofs.YtdjleoglphgdgaaGreatDoor
open Go.RowKit
def Head (k:IntKind) (w:World) (g n cap:Nat) (xs:List Int):Prop:=xs.length=n∧n≤cap∧g<w.heap.size∧∀ i,i<n→w.cell? ⟨g,i,none⟩=some (.int k (xs.getD i 0))
theorem Head.keep {k:IntKind} {w w':World} {g n cap:Nat} {xs:List Int} (h:Head k w g n cap xs) (hb:Below w.heap.size w w'):Head k w' g n cap xs:=
 ⟨h.1,h.2.1,Nat.lt_of_lt_of_le h.2.2.1 hb.size,fun i hi=>(hb.cell (p:=⟨g,i,none⟩) h.2.2.1).trans (h.2.2.2 i hi)⟩
def BRow (w:World) (g:Nat) (l:List UInt8):Prop:=w.heap[g]? =some (.cells (Lib.byteCells l).toArray 5 (0,0))
theorem BRow.set {w:World} {g:Nat} {l:List UInt8} (h:BRow w g l) (i:Nat) (c:UInt8) (z:Int) (hz:z=(c.toNat:Int)) (hi:i<l.length):BRow (w.setCell ⟨g,i,none⟩ (.int .u8 z)) g (l.set i c):=by
 unfold BRow at *;subst hz;rw [heap_setCell_same w g i _ _ _ h]
 congr 2
 rw [List.setIfInBounds_toArray];simp [Lib.byteCells,List.map_set]
theorem BRow.lt {w:World} {g:Nat} {l:List UInt8} (h:BRow w g l):g<w.heap.size:=(Array.getElem?_eq_some_iff.1 h).1
theorem BRow.free {w:World} {g:Nat} {l:List UInt8} (h:BRow w g l) (i:Nat):w.frozen? ⟨g,i,none⟩=false:=frozen_of_row w g i _ _ h
theorem BRow.cell {w:World} {g:Nat} {l:List UInt8} (h:BRow w g l) (i:Nat) (hi:i<l.length):w.cell? ⟨g,i,none⟩=some (.int .u8 ((l.getD i 0).toNat:Int)):=by
 rw [cell_of_row w g i _ _ _ h];simp [Lib.byteCells,hi]
theorem own_below' {w w1:World} {B e size n:Nat} {v:Value} {xs:List Value} (h:w.ownsRow B e size v n xs) (hb:Below w.heap.size w w1):w1.ownsRow B e size v n xs:=by
 refine ⟨h.1,?_⟩;rcases h.2 with h0|⟨g,cap,cur,hv,hb',hg,rest⟩
 · exact .inl h0
 · refine .inr ⟨g,cap,cur,hv,hb',?_,rest⟩;rw [hb.block g (Array.getElem?_eq_some_iff.1 hg).1];exact hg
def stands (s:ByteArray) (f:Nat) (l:List UInt8):Prop:=f+l.length≤s.size∧∀ j,j<l.length→s.data.toList.getD (f+j) 0=l.getD j 0
instance (s:ByteArray) (f:Nat) (l:List UInt8):Decidable (stands s f l):=inferInstanceAs (Decidable (_∧_))
def nv (b:Nat→Nat) (sub:Nat):Nat→Int
 | 0=>(b 0:Int)-(sub:Int)
 | k+1=>64*nv b sub k+(b (k+1):Int)-128
theorem ofNat_toNat {x:Nat} (h:x<256):(UInt8.ofNat x).toNat=x:=by simp;omega
def pz:Obj:= .cells #[.int .i64 0,.int .i64 0,.int .i64 0,.bool false] 111
structure PB (w u:World):Prop where
 row:u.heap[w.heap.size]? =some pz
 below:Below w.heap.size w u
theorem PB.keep {w u u':World} (h:PB w u) (hb:Below u.heap.size u u'):PB w u':=
 ⟨by have hl:=(Array.getElem?_eq_some_iff.1 h.row).1
     rw [hb.block _ hl];exact h.row,h.below.trans (hb.mono h.below.size)⟩
theorem PB.new (w:World):PB w (w.alloc pz):=⟨heap_alloc_new w pz,q0a w pz⟩
theorem PB.cell {w u:World} (h:PB w u) (i:Nat) (v:Value) (hv:(#[.int .i64 0,.int .i64 0,.int .i64 0,.bool false]:Array Value)[i]? =some v):u.cell? ⟨w.heap.size,i,none⟩=some v:=by
 rw [cell_of_row u w.heap.size i _ _ _ h.row];exact hv
theorem PB.free {w u:World} (h:PB w u) (i:Nat):u.frozen? ⟨w.heap.size,i,none⟩=false:=frozen_of_row u w.heap.size i _ _ h.row
def pcC (s:ByteArray) (f:Nat):List Value:=[.int .i64 (f:Int),.int .i64 ((f+(decL (s.data.toList.drop f)).2:Nat):Int),.int .i64 ((decL (s.data.toList.drop f)).1:Int),.bool (q0R (s.data.toList.drop f))]
def prow (s:ByteArray) (n:Nat):List Value:=(List.range n).flatMap fun k=>pcC s (off s.data.toList k)
theorem prow_up (s:ByteArray) (n:Nat):prow s (n+1)=prow s n++pcC s (off s.data.toList n):=by unfold prow;rw [List.range_succ,List.flatMap_append];simp
theorem prow_lenV (s:ByteArray) (n:Nat):(prow s n).length=n*4:=by
 induction n with
 | zero=>rfl
 | succ n ih=>rw [prow_up,List.length_append,ih];simp [pcC];omega
theorem prow_getV (s:ByteArray) {k N:Nat} (h:k<N) (j:Nat) (hj:j<4):(prow s N)[k*4+j]? =(pcC s (off s.data.toList k))[j]? :=by
 obtain ⟨m,rfl⟩:∃ m,N=(k+1)+m:=⟨N-(k+1),by omega⟩
 induction m with
 | zero=>
  rw [Nat.add_zero,prow_up,List.getElem?_append_right (by rw [prow_lenV];omega),prow_lenV]
  congr 1;omega
 | succ m ih=>
  rw [show k+1+(m+1)=k+1+m+1 by omega,prow_up,List.getElem?_append_left (by rw [prow_lenV];omega)];exact ih (by omega)
structure PRowV (s:ByteArray) (w:World) (g:Nat):Prop where
 row:∃ cur,w.heap[g]? =some (.cells cur 111 (0,0))∧cur.toList.take ((q18 s.data.toList).length*4)=prow s (q18 s.data.toList).length
theorem PRowV.get {s:ByteArray} {w:World} {g k:Nat} (h:PRowV s w g) (hk:k<(q18 s.data.toList).length) (j:Nat) (hj:j<4):w.cell? ⟨g,k*4+j,none⟩=(pcC s (off s.data.toList k))[j]? :=by
 obtain ⟨cur,h1,h2⟩:=h.row;rw [cell_of_row w g _ _ _ _ h1,← prow_getV s hk j hj,← h2,List.getElem?_take,if_pos (by omega),Array.getElem?_toList]
end Go.Proofs.YtdjleoglphgdgaaGreatDoor
