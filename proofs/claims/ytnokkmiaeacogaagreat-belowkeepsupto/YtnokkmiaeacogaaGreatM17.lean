import Derived.Test.YtnokkmiaeacogaaGreatM9
import Derived.Test.YtnokkmiaeacogaaGreatM16
import Derived.Deep.AppendLies
set_option linter.unusedVariables false
set_option linter.unusedSimpArgs false
namespace Go.Proofs.YtnokkmiaeacogaaGreat
open Go.RowKit
def lnT:Nat→TypeId
 | 0=>23
 | 1=>93
 | 4=>113
 | 6=>22
 | 7=>24
 | 8=>25
 | 9=>92
 | _=>0
def lnE:Nat→TypeId
 | 0=>9
 | 4=>115
 | _=>0
def lnZ:Nat→Nat
 | 4=>5
 | _=>1
def lnM:Nat→Nat→List Value
 | 0,i=>[.string (wbL i)]
 | 4,i=>[.int .i64 (-1),.string (wbL i),.string ⟨#[]⟩,.slice none 0 0,.slice none 0 0]
 | _,_=>[]
def lnU {α:Type} (f:Nat→ α) (k:Nat) (x: α):Nat→ α:=fun j=>if j=k then x else f j
theorem q0p {α:Type} (f:Nat→ α) (k:Nat) (x: α):lnU f k x k=x:=if_pos rfl
theorem q0c {α:Type} (f:Nat→ α) {k j:Nat} (x: α) (h:j≠k):lnU f k x j=f j:=if_neg h
theorem lnT_E {j:Nat} (hj:j=0∨j=4) (k:Nat):lnT k≠lnE j:=by
 rcases hj with rfl|rfl <;> (unfold lnT lnE;split <;> decide)
theorem lnT_inj {j k:Nat} (hj:j=0∨j=4) (hk:k≠j):lnT k≠lnT j:=by
 rcases hj with rfl|rfl
 · show lnT k≠23;unfold lnT
   split <;> first|decide|exact absurd rfl hk
 · show lnT k≠113;unfold lnT
   split <;> first|decide|exact absurd rfl hk
def MkR (w:World) (B j:Nat) (x:Value):Prop:=∃ g nn cap cur,x= .slice (some ⟨g,0,none⟩) nn cap∧16≤nn∧nn≤1099511627776∧nn≤cap∧B<g∧w.heap[g]? =some (.cells cur (lnE j) (0,0))∧∀ i,i<16→∀ k u,(lnM j i)[k]? =some u→cur[(nn-16+i)*lnZ j+k]? =some u
structure LnAt (B:Nat) (w:World) (c:Nat→Value) (n:Nat→Nat) (xs:Nat→List Value):Prop where
 box:w.heap[B]? =some (.cells #[c 0,c 1,c 2,c 3,c 4,c 5,c 6,c 7,c 8,c 9,c 10,c 11,c 12,c 13,c 14,c 15] 47 (0,0))
 own:∀ j,w.ownsRow (B+1) (lnT j) 1 (c j) (n j) (xs j)
 mks:∀ j,j=0∨j=4→∀ x∈xs j,MkR w B j x
 nil:∀ j,j≠0→j≠4→c j= .slice none 0 0
structure KpL (B:Nat) (c c':Nat→Value) (w w':World):Prop where
 os:w'.os=w.os
 tape:w'.tape=w.tape
 output:w'.output=w.output
 size:w.heap.size≤w'.heap.size
 block:∀ b,b<w.heap.size→b≠B→(∀ j,(c j).ownBlock≠some b)→w'.heap[b]? =w.heap[b]?
 row:∀ j,(c' j).ownBlock=(c j).ownBlock∨∀ g,(c' j).ownBlock=some g→w.heap.size≤g
def LnD (B:Nat) (c:Nat→Value) (b:Nat):Prop:=B<b∧∀ j,(c j).ownBlock≠some b
theorem q08 {W W':World} {B:Nat} {e:TypeId} {size:Nat} {v:Value} {n:Nat} {xs:List Value} (h:W.ownsRow B e size v n xs) (hb:∀ b,v.ownBlock=some b→b<W.heap.size→W'.heap[b]? =W.heap[b]?):W'.ownsRow B e size v n xs:=by
 refine ⟨h.1,h.2.imp id ?_⟩;rintro ⟨g,cap,cur,rfl,e2,e3,rest⟩;exact ⟨g,cap,cur,rfl,e2,(hb g rfl (Array.getElem?_eq_some_iff.1 e3).1).trans e3,rest⟩
theorem q0O {w:World} {B:Nat} {e t:TypeId} {size:Nat} {v:Value} {n:Nat} {xs:List Value} {g:Nat} {cs:Array Value} {f:Nat × Nat} (h:w.ownsRow B e size v n xs) (hg:w.heap[g]? =some (.cells cs t f)) (ht:t≠e):v.ownBlock≠some g:=by
 intro hb;rcases h.2 with ⟨rfl,_⟩|⟨g',cap,cur,rfl,e2,e3,_⟩
 · cases hb
 · simp [Value.ownBlock] at hb;subst hb;rw [hg] at e3;simp at e3;exact ht e3.2.1
theorem lnOwn_cur {w:World} {B:Nat} {e:TypeId} {size:Nat} {v:Value} {n:Nat} {xs:List Value} {g:Nat} (h:w.ownsRow B e size v n xs) (hg:v.ownBlock=some g):∃ cs,w.heap[g]? =some (.cells cs e (0,0)):=by
 rcases h.2 with ⟨rfl,_⟩|⟨g',cap,cur,rfl,e2,e3,_⟩
 · cases hg
 · simp [Value.ownBlock] at hg;subst hg;exact ⟨cur,e3⟩
theorem LnAt.lt {B:Nat} {w:World} {c:Nat→Value} {n:Nat→Nat} {xs:Nat→List Value} (h:LnAt B w c n xs):B<w.heap.size:=(Array.getElem?_eq_some_iff.1 h.box).1
theorem LnAt.base {B:Nat} {w:World} {c:Nat→Value} {n:Nat→Nat} {xs:Nat→List Value} (h:LnAt B w c n xs) {j b:Nat} (hb:(c j).ownBlock=some b):B+1≤b∧b<w.heap.size:=(h.own j).lt b hb
theorem MkR.keep {w w':World} {B j:Nat} {x:Value} (h:MkR w B j x) (hs:∀ b cs,B<b→w.heap[b]? =some (.cells cs (lnE j) (0,0))→w'.heap[b]? =w.heap[b]?):MkR w' B j x:=by
 obtain ⟨g,nn,cap,cur,e,h1,h2,h3,h4,h5,h6⟩:=h;exact ⟨g,nn,cap,cur,e,h1,h2,h3,h4,(hs g cur h4 h5).trans h5,h6⟩
theorem LnAt.keep {B:Nat} {w w':World} {c:Nat→Value} {n:Nat→Nat} {xs:Nat→List Value} (h:LnAt B w c n xs) (hb:Below w.heap.size w w'):LnAt B w' c n xs:=
 ⟨(hb.block B h.lt).trans h.box,fun j=>q08 (h.own j) (fun b _ hl=>hb.block b hl),fun j hj x hx=>(h.mks j hj x hx).keep (fun b cs _ he=>hb.block b (Array.getElem?_eq_some_iff.1 he).1),h.nil⟩
theorem LnAt.keepD {B:Nat} {w w':World} {c:Nat→Value} {n:Nat→Nat} {xs:Nat→List Value} (h:LnAt B w c n xs) (hbx:w'.heap[B]? =w.heap[B]?) (hr:∀ j b,(c j).ownBlock=some b→w'.heap[b]? =w.heap[b]?) (hm:∀ j,j=0∨j=4→∀ x∈xs j,MkR w B j x→MkR w' B j x):LnAt B w' c n xs:=
 ⟨hbx.trans h.box,fun j=>q08 (h.own j) (fun b hb _=>hr j b hb),fun j hj x hx=>hm j hj x hx (h.mks j hj x hx),h.nil⟩
theorem KpL.refl (B:Nat) (c:Nat→Value) (w:World):KpL B c c w w:=⟨rfl,rfl,rfl,Nat.le_refl _,fun _ _ _ _=>rfl,fun _=> .inl rfl⟩
theorem KpL.trans {B:Nat} {c c1 c2:Nat→Value} {w w1 w2:World} (h:KpL B c c1 w w1) (k:KpL B c1 c2 w1 w2):KpL B c c2 w w2:=by
 refine ⟨k.os.trans h.os,k.tape.trans h.tape,k.output.trans h.output,Nat.le_trans h.size k.size,fun b hb h1 h2=> ?_,fun j=> ?_⟩
 · refine (k.block b (Nat.lt_of_lt_of_le hb h.size) h1 (fun j e=> ?_)).trans (h.block b hb h1 h2);rcases h.row j with r|r
   · exact h2 j (r▸e)
   · have:=r b e;omega
 · rcases k.row j with r|r
   · rcases h.row j with r2|r2
     · exact .inl (r.trans r2)
     · exact .inr (fun g e=>r2 g (r▸e))
   · exact .inr (fun g e=>Nat.le_trans h.size (r g e))
theorem KpL.low {B:Nat} {c:Nat→Value} {w w':World} (hb:Below w.heap.size w w'):KpL B c c w w':=⟨hb.os,hb.tape,hb.output,hb.size,fun b h1 _ _=>hb.block b h1,fun _=> .inl rfl⟩
theorem KpL.below {B:Nat} {c c':Nat→Value} {n:Nat→Nat} {xs:Nat→List Value} {w w':World} (h:KpL B c c' w w') (hl:LnAt B w c n xs):Below B w w':=
 ⟨h.os,h.tape,h.output,h.size,fun b hb=>h.block b (Nat.lt_trans hb hl.lt) (by omega) (fun j e=>by have:=(hl.base e).1;omega)⟩
theorem LnD.keep {B:Nat} {c c':Nat→Value} {w w':World} (h:KpL B c c' w w') {b:Nat} (hd:LnD B c b) (hl:b<w.heap.size):LnD B c' b:=⟨hd.1,fun j e=>by
 rcases h.row j with r|r
 · exact hd.2 j (r▸e)
 · have:=r b e;omega⟩
def LnFr (w:World) (xs xs':Nat→List Value):Prop:=∀ j,j=0∨j=4→∀ x∈xs' j,x∈xs j∨∀ g,x.ownBlock=some g→w.heap.size≤g
theorem LnFr.refl (w:World) (xs:Nat→List Value):LnFr w xs xs:=fun _ _ _ h=> .inl h
theorem LnFr.trans {w w1:World} {xs xs1 xs2:Nat→List Value} (h:LnFr w xs xs1) (k:LnFr w1 xs1 xs2) (hs:w.heap.size≤w1.heap.size):LnFr w xs xs2:=fun j hj x hx=>by
 rcases k j hj x hx with h1|h1
 · exact h j hj x h1
 · exact .inr (fun g e=>Nat.le_trans hs (h1 g e))
theorem MkR.lt {w:World} {B j:Nat} {x:Value} (h:MkR w B j x) {g:Nat} (hg:x.ownBlock=some g):g<w.heap.size∧B<g:=by
 obtain ⟨g',nn,cap,cur,rfl,h1,h2,h3,h4,h5,h6⟩:=h;simp [Value.ownBlock] at hg;subst hg;exact ⟨(Array.getElem?_eq_some_iff.1 h5).1,h4⟩
theorem LnAt.other {B q:Nat} {w w':World} {c:Nat→Value} {n:Nat→Nat} {xs:Nat→List Value} (h:LnAt B w c n xs) (hq:q≠B) (hc:∀ j,(c j).ownBlock≠some q) (hx:∀ j,j=0∨j=4→∀ x∈xs j,x.ownBlock≠some q) (hs:∀ b,b<w.heap.size→b≠q→w'.heap[b]? =w.heap[b]?):LnAt B w' c n xs:=by
 refine h.keepD (hs B h.lt (fun e=>hq e.symm)) (fun j b hb=>hs b (h.base hb).2 (fun e=>hc j (e▸hb))) (fun j hj x hxx hm=> ?_);have hne:=hx j hj x hxx;obtain ⟨g,nn,cap,cur,rfl,h1,h2,h3,h4,h5,h6⟩:=hm;exact ⟨g,nn,cap,cur,rfl,h1,h2,h3,h4,(hs g (Array.getElem?_eq_some_iff.1 h5).1 (fun e=>hne (by simp [Value.ownBlock,e]))).trans h5,h6⟩
theorem LnAt.push {B:Nat} {w:World} {c:Nat→Value} {n:Nat→Nat} {xs:Nat→List Value} (h:LnAt B w c n xs) {j:Nat} (hj:j=0∨j=4) {tmp:Obj} {W5 w6:World} {x:Value} {g cap:Nat}
 (hown:W5.ownsRow (B+1) (lnT j) 1 (.slice (some ⟨g,0,none⟩) (n j+1) cap) (n j+1) (xs j++[x])) (hgrow:(w.alloc tmp).grownBy W5 (c j).ownBlock) (hat:(c j).ownBlock=some g∨g=w.heap.size+1) (hx:MkR w B j x)
 (h6:W5.setCell ⟨B,j,none⟩ (.slice (some ⟨g,0,none⟩) (n j+1) cap)=w6):
 LnAt B w6 (lnU c j (.slice (some ⟨g,0,none⟩) (n j+1) cap)) (lnU n j (n j+1)) (lnU xs j (xs j++[x]))∧KpL B c (lnU c j (.slice (some ⟨g,0,none⟩) (n j+1) cap)) w w6:=by
 have hB:=h.lt;have blk:∀ b,b<w.heap.size→(c j).ownBlock≠some b→W5.heap[b]? =w.heap[b]? :=fun b hb hn=>(hgrow.block b (by simp;omega) (fun e=>hn e.symm)).trans (Below.heap_alloc _ _ _ hb);have hnB:∀ k,(c k).ownBlock≠some B:=fun k e=>by have:=(h.base e).1;omega
 have hgB:B+1≤g:=by
  rcases hat with e|e
  · exact (h.base e).1
  · omega
 have blk6:∀ b,b<w.heap.size→b≠B→(c j).ownBlock≠some b→w6.heap[b]? =w.heap[b]? :=fun b hb h1 hn=>by
  rw [← h6];exact (Below.heap_setCell _ _ _ _ h1).trans (blk b hb hn)
 have hbox5:W5.heap[B]? =some (.cells #[c 0,c 1,c 2,c 3,c 4,c 5,c 6,c 7,c 8,c 9,c 10,c 11,c 12,c 13,c 14,c 15] 47 (0,0)):=(blk B hB (hnB j)).trans h.box;have hz:w6.heap.size=W5.heap.size:=by rw [← h6];simp
 have hgs:=hgrow.size;simp at hgs
 have hbel:Below B w w6:=by
  rw [← h6];exact (((Below.refl B w).alloc (Nat.le_of_lt hB) _).grown hgrow (by simp;omega) (fun r e=>by have:=(h.base e).1;omega)).setCell (p:=⟨B,j,none⟩) (Nat.le_refl _) _
 refine ⟨⟨?_,fun k=> ?_,fun k hk y hy=> ?_,fun k k0 k4=> ?_⟩,⟨hbel.os,hbel.tape,hbel.output,by omega,fun b hb h1 h2=>blk6 b hb h1 (h2 j),fun k=> ?_⟩⟩
 · rw [← h6]
   have e:(W5.setCell ⟨B,j,none⟩ (.slice (some ⟨g,0,none⟩) (n j+1) cap)).heap[B]? =some (.cells (#[c 0,c 1,c 2,c 3,c 4,c 5,c 6,c 7,c 8,c 9,c 10,c 11,c 12,c 13,c 14,c 15].setIfInBounds j (.slice (some ⟨g,0,none⟩) (n j+1) cap)) 47 (0,0)):=by
    show (W5.heap.modify B _)[B]? =_;rw [Array.getElem?_modify,if_pos rfl,hbox5];rfl
   rw [e];rcases hj with rfl|rfl <;> simp [lnU]
 · by_cases hk:k=j
   · subst hk;rw [q0p,q0p,q0p,← h6];exact q08 hown (fun b hb _=>Below.heap_setCell _ _ _ _ (by simp [Value.ownBlock] at hb;show b≠B;omega))
   · rw [q0c _ _ hk,q0c _ _ hk,q0c _ _ hk];refine q08 (h.own k) (fun b hb hl=>blk6 b hl (fun e=>hnB k (e▸hb)) (fun e=> ?_));obtain ⟨cs,he⟩:=lnOwn_cur (h.own k) hb;exact q0O (h.own j) he (lnT_inj hj hk) e
 · have hy':MkR w B k y:=by
    by_cases hkj:k=j
    · subst hkj;rw [q0p] at hy;rcases List.mem_append.1 hy with hy|hy
      · exact h.mks k hk y hy
      · rcases List.mem_singleton.1 hy with rfl;exact hx
    · rw [q0c _ _ hkj] at hy;exact h.mks k hk y hy
   exact hy'.keep (fun b cs hb he=>blk6 b (Array.getElem?_eq_some_iff.1 he).1 (by omega) (q0O (h.own j) he (fun e=>lnT_E hk j e.symm)))
 · rw [q0c _ _ (by rcases hj with rfl|rfl <;> omega)];exact h.nil k k0 k4
 · by_cases hk:k=j
   · subst hk;rw [q0p];rcases hat with e|e
     · exact .inl e.symm
     · exact .inr (fun q hq=>by simp [Value.ownBlock] at hq;omega)
   · rw [q0c _ _ hk];exact .inl rfl
def InL (D:Nat→Prop) (W:World):Nat→VT→Value→Prop
 | 0,_,_=>False
 | h+1,T,v=>∃ (io:Option Addr) (icap:Nat) (ko:Option Addr) (kcap:Nat),
    v= .agg #[.int .i64 T.kind,.string T.num,.string T.text,.slice io T.items.length icap,.slice ko T.keys.length kcap]∧
    T.num.size≤140737488355328∧T.text.size≤140737488355328∧T.items.length≤140737488355328∧T.keys.length≤140737488355328∧T.items.length≤icap∧T.keys.length≤kcap∧
    (∀ k∈T.keys,k.size≤140737488355328)∧
    (0<T.keys.length→∃ b off,ko=some ⟨b,off,none⟩∧D b∧b<W.heap.size∧∀ i,i<T.keys.length→W.cell? ⟨b,off+i,none⟩=some (.string (T.keys.getD i .empty)))∧
    (0<T.items.length→∃ b off,io=some ⟨b,off,none⟩∧D b∧b<W.heap.size∧∀ i,(hi:i<T.items.length)→∃ v0 v1 v2 v3 v4:Value,
     (W.cell? ⟨b,off+i*5,none⟩=some v0∧W.cell? ⟨b,off+i*5+1,none⟩=some v1∧W.cell? ⟨b,off+i*5+2,none⟩=some v2∧W.cell? ⟨b,off+i*5+3,none⟩=some v3∧W.cell? ⟨b,off+i*5+4,none⟩=some v4)∧InL D W h T.items[i] (.agg #[v0,v1,v2,v3,v4]))
theorem InL.keep {D D':Nat→Prop} {W W':World} (hz:W.heap.size≤W'.heap.size) (hs:∀ b,D b→b<W.heap.size→W'.heap[b]? =W.heap[b]?) (hlo:∀ b,D b→b<W.heap.size→D' b):∀ {h:Nat} {T:VT} {v:Value},InL D W h T v→InL D' W' h T v
 | 0,_,_,h=>h
 | h+1,T,v,hI=>by
  obtain ⟨io,icap,ko,kcap,e,a1,a2,a3,a4,a5,a6,a7,hk,hi⟩:=hI;have cc:∀ b o u,D b→b<W.heap.size→W.cell? ⟨b,o,none⟩=some u→W'.cell? ⟨b,o,none⟩=some u:=fun b o u h1 h2 h3=>(World.cell?_of_block (a:=⟨b,o,none⟩) (hs b h1 h2)).trans h3;refine ⟨io,icap,ko,kcap,e,a1,a2,a3,a4,a5,a6,a7,fun h0=> ?_,fun h0=> ?_⟩
  · obtain ⟨b,off,e2,hb,hl,hc⟩:=hk h0;exact ⟨b,off,e2,hlo b hb hl,Nat.lt_of_lt_of_le hl hz,fun i hi=>cc _ _ _ hb hl (hc i hi)⟩
  · obtain ⟨b,off,e2,hb,hl,hc⟩:=hi h0;refine ⟨b,off,e2,hlo b hb hl,Nat.lt_of_lt_of_le hl hz,fun i hil=> ?_⟩;obtain ⟨v0,v1,v2,v3,v4,⟨c0,c1,c2,c3,c4⟩,ht⟩:=hc i hil;exact ⟨v0,v1,v2,v3,v4,⟨cc _ _ _ hb hl c0,cc _ _ _ hb hl c1,cc _ _ _ hb hl c2,cc _ _ _ hb hl c3,cc _ _ _ hb hl c4⟩,InL.keep hz hs hlo ht⟩
theorem InL.kp {B:Nat} {c c':Nat→Value} {w w':World} (k:KpL B c c' w w') {h:Nat} {T:VT} {v:Value} (hI:InL (LnD B c) w h T v):InL (LnD B c') w' h T v:=
 InL.keep k.size (fun b hb hl=>k.block b hl (by have:=hb.1;omega) hb.2) (fun b hb hl=>LnD.keep k hb hl) hI
def ltE:Nat→TypeId
 | 0=>9
 | 1=>4
 | 4=>115
 | 6=>83
 | 7=>89
 | 8=>95
 | 9=>27
 | _=>0
def ltZ:Nat→Nat
 | 4=>5
 | 6=>2
 | 7=>11
 | 8=>12
 | 9=>9
 | _=>1
def q0f (j:Nat):Prop:=j=0∨j=1∨j=6∨j=7∨j=8∨j=9
theorem ltT_E {j:Nat} (hj:q0f j) (k:Nat):lnT k≠ltE j:=by
 rcases hj with rfl|rfl|rfl|rfl|rfl|rfl <;> (unfold lnT ltE;split <;> decide)
theorem ltT_inj {j k:Nat} (hj:q0f j) (hk:k≠j):lnT k≠lnT j:=by
 rcases hj with rfl|rfl|rfl|rfl|rfl|rfl
 · show lnT k≠23;unfold lnT;split <;> first|decide|exact absurd rfl hk
 · show lnT k≠93;unfold lnT;split <;> first|decide|exact absurd rfl hk
 · show lnT k≠22;unfold lnT;split <;> first|decide|exact absurd rfl hk
 · show lnT k≠24;unfold lnT;split <;> first|decide|exact absurd rfl hk
 · show lnT k≠25;unfold lnT;split <;> first|decide|exact absurd rfl hk
 · show lnT k≠92;unfold lnT;split <;> first|decide|exact absurd rfl hk
def nvC:List Value:=[.bool false,.bool false,.bool false,.bool false,.slice none 0 0,.bool false,.slice none 0 0,.slice none 0 0,.slice none 0 0]
def MkC (D:Nat→Prop) (w:World) (j i:Nat) (cs:List Value):Prop:=match j with
 | 0=>cs=[.string (wbL i)]
 | 1=>cs=[.bool (decide (i%2=0))]
 | 4=>cs=[.int .i64 (-1),.string (wbL i),.string ⟨#[]⟩,.slice none 0 0,.slice none 0 0]
 | 6=>cs=[.string (wbL i),.string ⟨#[]⟩]
 | 7=>cs=nvC++[.int .i64 (-1),.int .i64 (i:Int)]
 | 8=>∃ q,cs=[.slice (some ⟨q,0,none⟩) 1 1,.slice none 0 0,.slice none 0 0]++nvC∧D q∧q<w.heap.size∧w.cell? ⟨q,0,none⟩=some (.string (wbL i))
 | 9=>∃ q,cs=[.bool false,.bool false,.bool false,.bool false,.slice none 0 0,.bool false,.slice (some ⟨q,0,none⟩) 1 1,.slice none 0 0,.slice none 0 0]∧D q∧q<w.heap.size∧w.cell? ⟨q,0,none⟩=some (.string (wbL i))
 | _=>True
def q0t (E:(Nat→Prop)→World→Nat→List Value→Prop):Prop:=∀ (D D':Nat→Prop) (W W':World) (i:Nat) (cs:List Value),W.heap.size≤W'.heap.size→(∀ b,D b→b<W.heap.size→W'.heap[b]? =W.heap[b]?)→(∀ b,D b→b<W.heap.size→D' b)→E D W i cs→E D' W' i cs
theorem MkC.keep (j:Nat):q0t (fun D W i cs=>MkC D W j i cs):=by
 intro D D' W W' i cs hz hs hd h;have mem:∀ q,D q→q<W.heap.size→W.cell? ⟨q,0,none⟩=some (.string (wbL i))→D' q∧q<W'.heap.size∧W'.cell? ⟨q,0,none⟩=some (.string (wbL i)):=fun q h1 h2 h3=>⟨hd q h1 h2,by omega,(World.cell?_of_block (a:=⟨q,0,none⟩) (hs q h1 h2)).trans h3⟩;unfold MkC at h ⊢
 split
 · exact h
 · exact h
 · exact h
 · exact h
 · exact h
 · obtain ⟨q,e,h1,h2,h3⟩:=h;exact ⟨q,e,mem q h1 h2 h3⟩
 · obtain ⟨q,e,h1,h2,h3⟩:=h;exact ⟨q,e,mem q h1 h2 h3⟩
 · trivial
def MkRt (D:Nat→Prop) (w:World) (j:Nat) (x:Value):Prop:=∃ g nn cap cur,x= .slice (some ⟨g,0,none⟩) nn cap∧16≤nn∧nn≤1099511627776∧nn≤cap∧D g∧w.heap[g]? =some (.cells cur (ltE j) (0,0))∧∀ i,i<16→∃ cs:List Value,cs.length=ltZ j∧MkC D w j i cs∧∀ (k:Nat) (u:Value),cs[k]? =some u→cur[(nn-16+i)*ltZ j+k]? =some u
theorem MkRt.keep {D D':Nat→Prop} {w w':World} {j:Nat} {x:Value} (h:MkRt D w j x) (hz:w.heap.size≤w'.heap.size) (hs:∀ b,D b→b<w.heap.size→w'.heap[b]? =w.heap[b]?) (hd:∀ b,D b→b<w.heap.size→D' b):MkRt D' w' j x:=by
 obtain ⟨g,nn,cap,cur,e,h1,h2,h3,h4,h5,h6⟩:=h;have hl:=(Array.getElem?_eq_some_iff.1 h5).1;refine ⟨g,nn,cap,cur,e,h1,h2,h3,hd g h4 hl,(hs g h4 hl).trans h5,fun i hi=> ?_⟩;obtain ⟨cs,k1,k2,k3⟩:=h6 i hi;exact ⟨cs,k1,MkC.keep j D D' w w' i cs hz hs hd k2,k3⟩
structure LtAt (B:Nat) (w:World) (c:Nat→Value) (n:Nat→Nat) (Dm:Nat→Prop):Prop where
 box:w.heap[B]? =some (.cells #[c 0,c 1,c 2,c 3,c 4,c 5,c 6,c 7,c 8,c 9,c 10,c 11,c 12,c 13,c 14,c 15] 47 (0,0))
 own:∀ j,∃ xs,w.ownsRow (B+1) (lnT j) 1 (c j) (n j) xs∧(q0f j→∀ x∈xs,MkRt Dm w j x)
 nil:∀ j,¬ q0f j→c j= .slice none 0 0
 dom:∀ b,Dm b→b<w.heap.size∧LnD B c b
theorem LtAt.lt {B:Nat} {w:World} {c:Nat→Value} {n:Nat→Nat} {Dm:Nat→Prop} (h:LtAt B w c n Dm):B<w.heap.size:=(Array.getElem?_eq_some_iff.1 h.box).1
theorem LtAt.base {B:Nat} {w:World} {c:Nat→Value} {n:Nat→Nat} {Dm:Nat→Prop} (h:LtAt B w c n Dm) {j b:Nat} (hb:(c j).ownBlock=some b):B+1≤b∧b<w.heap.size:=by
 obtain ⟨xs,ho,_⟩:=h.own j;exact ho.lt b hb
theorem LtAt.keep {B:Nat} {w w':World} {c:Nat→Value} {n:Nat→Nat} {Dm:Nat→Prop} (h:LtAt B w c n Dm) (hb:Below w.heap.size w w'):LtAt B w' c n Dm:=by
 refine ⟨(hb.block B h.lt).trans h.box,fun j=> ?_,h.nil,fun b hd=>⟨Nat.lt_of_lt_of_le (h.dom b hd).1 hb.size,(h.dom b hd).2⟩⟩;obtain ⟨xs,ho,hm⟩:=h.own j;exact ⟨xs,q08 ho (fun b _ hl=>hb.block b hl),fun hj x hx=>(hm hj x hx).keep hb.size (fun b _ hl=>hb.block b hl) (fun b hd _=>hd)⟩
theorem LtAt.other {B q:Nat} {w w':World} {c:Nat→Value} {n:Nat→Nat} {Dm:Nat→Prop} (h:LtAt B w c n Dm) (hq:q≠B) (hc:∀ j,(c j).ownBlock≠some q) (hx:¬ Dm q) (hz:w.heap.size≤w'.heap.size) (hs:∀ b,b<w.heap.size→b≠q→w'.heap[b]? =w.heap[b]?):LtAt B w' c n Dm:=by
 refine ⟨(hs B h.lt (fun e=>hq e.symm)).trans h.box,fun j=> ?_,h.nil,fun b hd=>⟨Nat.lt_of_lt_of_le (h.dom b hd).1 hz,(h.dom b hd).2⟩⟩;obtain ⟨xs,ho,hm⟩:=h.own j;exact ⟨xs,q08 ho (fun b hb hl=>hs b hl (fun e=>hc j (e▸hb))),fun hj x hxx=>(hm hj x hxx).keep hz (fun b hd hl=>hs b hl (fun e=>hx (e▸hd))) (fun b hd _=>hd)⟩
theorem KpL.belowT {B:Nat} {c c':Nat→Value} {n:Nat→Nat} {Dm:Nat→Prop} {w w':World} (h:KpL B c c' w w') (hl:LtAt B w c n Dm):Below B w w':=
 ⟨h.os,h.tape,h.output,h.size,fun b hb=>h.block b (Nat.lt_trans hb hl.lt) (by omega) (fun j e=>by have:=(hl.base e).1;omega)⟩
theorem LtAt.push {B:Nat} {w:World} {c:Nat→Value} {n:Nat→Nat} {Dm D2:Nat→Prop} (h:LtAt B w c n Dm) {j:Nat} (hj:q0f j) (hj16:j<16) {xs:List Value} (ho:w.ownsRow (B+1) (lnT j) 1 (c j) (n j) xs) (hm:∀ x∈xs,MkRt Dm w j x) {tmp:Obj} {W5 w6:World} {x:Value} {g cap:Nat}
 (hown:W5.ownsRow (B+1) (lnT j) 1 (.slice (some ⟨g,0,none⟩) (n j+1) cap) (n j+1) (xs++[x])) (hgrow:(w.alloc tmp).grownBy W5 (c j).ownBlock) (hat:(c j).ownBlock=some g∨g=w.heap.size+1)
 (hD:∀ b,Dm b→D2 b) (hD2:∀ b,D2 b→b<w.heap.size∧LnD B c b) (hx:MkRt D2 w j x)
 (h6:W5.setCell ⟨B,j,none⟩ (.slice (some ⟨g,0,none⟩) (n j+1) cap)=w6):
 LtAt B w6 (lnU c j (.slice (some ⟨g,0,none⟩) (n j+1) cap)) (lnU n j (n j+1)) D2∧KpL B c (lnU c j (.slice (some ⟨g,0,none⟩) (n j+1) cap)) w w6:=by
 have hB:=h.lt;have blk:∀ b,b<w.heap.size→(c j).ownBlock≠some b→W5.heap[b]? =w.heap[b]? :=fun b hb hn=>(hgrow.block b (by simp;omega) (fun e=>hn e.symm)).trans (Below.heap_alloc _ _ _ hb);have hnB:∀ k,(c k).ownBlock≠some B:=fun k e=>by have:=(h.base e).1;omega
 have hgB:B+1≤g:=by
  rcases hat with e|e
  · exact (h.base e).1
  · omega
 have blk6:∀ b,b<w.heap.size→b≠B→(c j).ownBlock≠some b→w6.heap[b]? =w.heap[b]? :=fun b hb h1 hn=>by
  rw [← h6];exact (Below.heap_setCell _ _ _ _ h1).trans (blk b hb hn)
 have hbox5:W5.heap[B]? =some (.cells #[c 0,c 1,c 2,c 3,c 4,c 5,c 6,c 7,c 8,c 9,c 10,c 11,c 12,c 13,c 14,c 15] 47 (0,0)):=(blk B hB (hnB j)).trans h.box;have hz:w6.heap.size=W5.heap.size:=by rw [← h6];simp
 have hgs:=hgrow.size;simp at hgs
 have hbel:Below B w w6:=by
  rw [← h6];exact (((Below.refl B w).alloc (Nat.le_of_lt hB) _).grown hgrow (by simp;omega) (fun r e=>by have:=(h.base e).1;omega)).setCell (p:=⟨B,j,none⟩) (Nat.le_refl _) _
 have domK:∀ b,D2 b→w6.heap[b]? =w.heap[b]? :=fun b hb=>blk6 b (hD2 b hb).1 (by have:=(hD2 b hb).2.1;omega) ((hD2 b hb).2.2 j)
 refine ⟨⟨?_,fun k=> ?_,fun k hk=> ?_,fun b hb=>⟨by have:=(hD2 b hb).1;omega,(hD2 b hb).2.1,fun k e=> ?_⟩⟩,⟨hbel.os,hbel.tape,hbel.output,by omega,fun b hb h1 h2=>blk6 b hb h1 (h2 j),fun k=> ?_⟩⟩
 · rw [← h6]
   have e:(W5.setCell ⟨B,j,none⟩ (.slice (some ⟨g,0,none⟩) (n j+1) cap)).heap[B]? =some (.cells (#[c 0,c 1,c 2,c 3,c 4,c 5,c 6,c 7,c 8,c 9,c 10,c 11,c 12,c 13,c 14,c 15].setIfInBounds j (.slice (some ⟨g,0,none⟩) (n j+1) cap)) 47 (0,0)):=by
    show (W5.heap.modify B _)[B]? =_;rw [Array.getElem?_modify,if_pos rfl,hbox5];rfl
   rw [e];rcases hj with rfl|rfl|rfl|rfl|rfl|rfl <;> simp [lnU]
 · by_cases hk:k=j
   · subst hk;refine ⟨xs++[x],?_,fun _ y hy=> ?_⟩
     · rw [q0p,q0p,← h6];exact q08 hown (fun b hb _=>Below.heap_setCell _ _ _ _ (by simp [Value.ownBlock] at hb;show b≠B;omega))
     · have hy':MkRt D2 w k y:=by
        rcases List.mem_append.1 hy with hy|hy
        · exact (hm y hy).keep (Nat.le_refl _) (fun _ _ _=>rfl) (fun b hb _=>hD b hb)
        · rcases List.mem_singleton.1 hy with rfl;exact hx
       exact hy'.keep (by omega) (fun b hb _=>domK b hb) (fun b hb _=>hb)
   · obtain ⟨ys,hyo,hym⟩:=h.own k;refine ⟨ys,?_,fun hku y hy=>((hym hku y hy).keep (Nat.le_refl _) (fun _ _ _=>rfl) (fun b hb _=>hD b hb)).keep (by omega) (fun b hb _=>domK b hb) (fun b hb _=>hb)⟩;rw [q0c _ _ hk,q0c _ _ hk];refine q08 hyo (fun b hb hl=>blk6 b hl (fun e=>hnB k (e▸hb)) (fun e=> ?_));obtain ⟨cs,he⟩:=lnOwn_cur hyo hb;exact q0O ho he (ltT_inj hj hk) e
 · have hkj:k≠j:=fun e=>by subst e;exact hk hj
   rw [q0c _ _ hkj];exact h.nil k hk
 · by_cases hk:k=j
   · subst hk;rw [q0p] at e;simp [Value.ownBlock] at e;have hb1:=hD2 b hb;rcases hat with h1|h1
     · exact hb1.2.2 k (e▸h1)
     · omega
   · rw [q0c _ _ hk] at e;exact (hD2 b hb).2.2 k e
 · by_cases hk:k=j
   · subst hk;rw [q0p];rcases hat with e|e
     · exact .inl e.symm
     · exact .inr (fun q hq=>by simp [Value.ownBlock] at hq;omega)
   · rw [q0c _ _ hk];exact .inl rfl
def elt (z:Nat) (X:List Value) (i:Nat):List Value:=(X.drop (i*z)).take z
theorem elt_lt {z:Nat} {X Y:List Value} {i:Nat} (h:i*z+z≤X.length):elt z (X++Y) i=elt z X i:=by
 unfold elt;rw [List.drop_append_of_le_length (by omega),List.take_append_of_le_length (by rw [List.length_drop];omega)]
theorem elt_eq {z k:Nat} {X Y:List Value} (h:X.length=k*z) (hy:Y.length=z):elt z (X++Y) k=Y:=by
 unfold elt;rw [← h,List.drop_left,List.take_of_length_le (by omega)]
theorem elt_get {z:Nat} {X:List Value} {i k:Nat} (hk:k<z):(elt z X i)[k]? =X[i*z+k]? :=by
 unfold elt;rw [List.getElem?_take,if_pos hk,List.getElem?_drop]
theorem elt_len {z:Nat} {X:List Value} {i:Nat} (h:i*z+z≤X.length):(elt z X i).length=z:=by
 unfold elt;rw [List.length_take,List.length_drop];omega
theorem q0C {i k z:Nat} (h:i<k):i*z+z≤k*z:=by
 have:=Nat.mul_le_mul_right z (show i+1≤k by omega);rw [Nat.succ_mul] at this;exact this
def GsD (B:Nat) (w:World) (c:Nat→Value) (v:Value) (b:Nat):Prop:=w.heap.size≤b∧LnD B c b∧v.ownBlock≠some b
structure GsS (B j N:Nat) (E:(Nat→Prop)→World→Nat→List Value→Prop) (c c':Nat→Value) (n n':Nat→Nat) (Dm Dm':Nat→Prop) (w:World) (k S:Nat) (v:Value) (X:List Value) (wr:World):Prop where
 loan:LtAt B wr c' n' Dm'
 kp:KpL B c c' w wr
 fr:∀ b,Dm' b→Dm b∨w.heap.size≤b
 off:∀ b,v.ownBlock=some b→¬ Dm' b
 own:wr.ownsRow w.heap.size (ltE j) (ltZ j) v k X
 elems:∀ i,i<N→i<k→E (GsD B w c' v) wr i (elt (ltZ j) X i)
 marks:∀ i,N+i<k→MkC (GsD B w c' v) wr j i (elt (ltZ j) X (N+i))
 num:∀ q,n' q≤n q+S
theorem GsS.low {B j N:Nat} {E:(Nat→Prop)→World→Nat→List Value→Prop} {c c':Nat→Value} {n n':Nat→Nat} {Dm Dm':Nat→Prop} {w wr w4:World} {k S:Nat} {v:Value} {X:List Value} (H:GsS B j N E c c' n n' Dm Dm' w k S v X wr) (hE:q0t E) (hb:Below wr.heap.size wr w4):GsS B j N E c c' n n' Dm Dm' w k S v X w4:=
 ⟨H.loan.keep hb,H.kp.trans (KpL.low hb),H.fr,H.off,q08 H.own (fun b _ hl=>hb.block b hl),fun i h1 h2=>hE _ _ _ _ _ _ hb.size (fun b _ hl=>hb.block b hl) (fun b hd _=>hd) (H.elems i h1 h2),fun i h1=>MkC.keep j _ _ _ _ _ _ hb.size (fun b _ hl=>hb.block b hl) (fun b hd _=>hd) (H.marks i h1),H.num⟩
theorem GsS.far {B j N:Nat} {E:(Nat→Prop)→World→Nat→List Value→Prop} {c c':Nat→Value} {n n':Nat→Nat} {Dm Dm':Nat→Prop} {w wr:World} {k S:Nat} {v:Value} {X:List Value} (H:GsS B j N E c c' n n' Dm Dm' w k S v X wr) (hj:q0f j) (hB:B<w.heap.size) {g:Nat} (hg:v.ownBlock=some g):w.heap.size≤g∧g<wr.heap.size∧g≠B∧∀ q,(c' q).ownBlock≠some g:=by
 obtain ⟨h1,h2⟩:=H.own.lt g hg;obtain ⟨cs,he⟩:=lnOwn_cur H.own hg;refine ⟨h1,h2,by omega,fun q=> ?_⟩;obtain ⟨xs,ho,_⟩:=H.loan.own q;exact q0O ho he (fun e=>ltT_E hj q e.symm)
theorem GsS.val {B j N:Nat} {E:(Nat→Prop)→World→Nat→List Value→Prop} {c c' c4:Nat→Value} {n n' n4:Nat→Nat} {Dm Dm' D4:Nat→Prop} {w wr w4:World} {k S s:Nat} {v:Value} {X:List Value} (H:GsS B j N E c c' n n' Dm Dm' w k S v X wr) (hE:q0t E) (hj:q0f j) (hB:B<w.heap.size) (hL:LtAt B w4 c4 n4 D4) (hkp:KpL B c' c4 wr w4) (hfr:∀ b,D4 b→Dm' b∨wr.heap.size≤b) (hn:∀ q,n4 q≤n' q+s):
 GsS B j N E c c4 n n4 Dm D4 w k (S+s) v X w4∧∀ b,wr.heap.size≤b∧LnD B c4 b→GsD B w c4 v b:=by
 have hz:=H.kp.size;have kk:∀ b,GsD B w c' v b→b<wr.heap.size→w4.heap[b]? =wr.heap[b]? :=fun b hb hl=>hkp.block b hl (by have:=hb.2.1.1;omega) hb.2.1.2
 have dd:∀ b,GsD B w c' v b→b<wr.heap.size→GsD B w c4 v b:=fun b hb hl=>⟨hb.1,LnD.keep hkp hb.2.1 hl,hb.2.2⟩;refine ⟨⟨hL,H.kp.trans hkp,fun b hb=> ?_,fun b hb hd=> ?_,q08 H.own (fun b hb hl=> ?_),fun i h1 h2=>hE _ _ _ _ _ _ hkp.size kk dd (H.elems i h1 h2),fun i h1=>MkC.keep j _ _ _ _ _ _ hkp.size kk dd (H.marks i h1),fun q=> ?_⟩,fun b hb=>⟨by have:=hb.1;omega,hb.2,fun e=> ?_⟩⟩
 · rcases hfr b hb with h1|h1
   · exact H.fr b h1
   · exact .inr (by omega)
 · obtain ⟨_,f2,_,_⟩:=H.far hj hB hb;rcases hfr b hd with h1|h1
   · exact H.off b hb h1
   · omega
 · obtain ⟨_,_,f3,f4⟩:=H.far hj hB hb;exact hkp.block b hl f3 f4
 · have h1:=H.num q;have h2:=hn q;omega
 · obtain ⟨_,f2,_,_⟩:=H.far hj hB e;have:=hb.1;omega
theorem GsS.app {B j N:Nat} {E:(Nat→Prop)→World→Nat→List Value→Prop} {c c':Nat→Value} {n n':Nat→Nat} {Dm Dm':Nat→Prop} {w w4 w5:World} {k S:Nat} {v:Value} {X Y:List Value} (H:GsS B j N E c c' n n' Dm Dm' w k S v X w4) (hE:q0t E) (hj:q0f j) (hB:B<w.heap.size) {g cap:Nat} (hY:Y.length=ltZ j)
 (hown:w5.ownsRow w.heap.size (ltE j) (ltZ j) (.slice (some ⟨g,0,none⟩) (k+1) cap) (k+1) (X++Y)) (hgrow:w4.grownBy w5 v.ownBlock) (hat:v.ownBlock=some g∨g=w4.heap.size)
 (hnew:k<N→E (GsD B w c' v) w4 k Y) (hmk:N≤k→MkC (GsD B w c' v) w4 j (k-N) Y):
 GsS B j N E c c' n n' Dm Dm' w (k+1) S (.slice (some ⟨g,0,none⟩) (k+1) cap) (X++Y) w5:=by
 have hgs:=hgrow.size;have hX:X.length=k*ltZ j:=H.own.1
 have dd:∀ b,GsD B w c' v b→b<w4.heap.size→GsD B w c' (.slice (some ⟨g,0,none⟩) (k+1) cap) b:=fun b hb hl=>⟨hb.1,hb.2.1,fun e=>by
  simp [Value.ownBlock] at e;rcases hat with h1|h1
  · exact hb.2.2 (e▸h1)
  · omega⟩
 have kk:∀ b,GsD B w c' v b→b<w4.heap.size→w5.heap[b]? =w4.heap[b]? :=fun b hb hl=>hgrow.block b hl (fun e=>hb.2.2 e.symm)
 have hloan:LtAt B w5 c' n' Dm':=by
  cases hv:v.ownBlock with
  | none=>exact H.loan.keep ⟨hgrow.os,hgrow.tape,hgrow.output,hgrow.size,fun b hb=>hgrow.block b hb (by rw [hv];intro e;cases e)⟩
  | some q=>
   obtain ⟨_,_,f3,f4⟩:=H.far hj hB hv;exact H.loan.other f3 f4 (H.off q hv) hgs (fun b hb hne=>hgrow.block b hb (by rw [hv];intro e;injection e with e;exact hne e))
 refine ⟨hloan,⟨hgrow.os.trans H.kp.os,hgrow.tape.trans H.kp.tape,hgrow.output.trans H.kp.output,Nat.le_trans H.kp.size hgrow.size,fun b hb h1 h2=>(hgrow.block b (Nat.lt_of_lt_of_le hb H.kp.size) (fun e=>by have:=(H.far hj hB e.symm).1;omega)).trans (H.kp.block b hb h1 h2),H.kp.row⟩,H.fr,fun b hb hd=> ?_,hown,fun i h1 h2=> ?_,fun i h1=> ?_,H.num⟩
 · simp [Value.ownBlock] at hb;subst hb;rcases hat with h1|h1
   · exact H.off g h1 hd
   · have:=(H.loan.dom g hd).1;omega
 · by_cases hik:i=k
   · subst hik;rw [elt_eq hX hY];exact hE _ _ _ _ _ _ hgs kk dd (hnew h1)
   · rw [elt_lt (by rw [hX];exact q0C (by omega))];exact hE _ _ _ _ _ _ hgs kk dd (H.elems i h1 (by omega))
 · by_cases hik:N+i=k
   · rw [hik,elt_eq hX hY];have h2:=hmk (by omega);have e:k-N=i:=by omega
     rw [e] at h2;exact MkC.keep j _ _ _ _ _ _ hgs kk dd h2
   · rw [elt_lt (by rw [hX];exact q0C (by omega))];exact MkC.keep j _ _ _ _ _ _ hgs kk dd (H.marks i (by omega))
structure GsR (B j N:Nat) (E:(Nat→Prop)→World→Nat→List Value→Prop) (c c':Nat→Value) (n n':Nat→Nat) (Dm Dm':Nat→Prop) (w w':World) (S g cap:Nat):Prop where
 loan:LtAt B w' c' n' Dm'
 kp:KpL B c c' w w'
 fr:∀ b,Dm' b→Dm b∨w.heap.size≤b
 new:w.heap.size≤g
 dom:LnD B c' g
 lt:g<w'.heap.size
 fit:N≤cap
 blk:∃ cur,w'.heap[g]? =some (.cells cur (ltE j) (0,0))
 row:∀ i,i<N→∃ cs:List Value,cs.length=ltZ j∧(∀ (k:Nat) (u:Value),cs[k]? =some u→w'.cell? ⟨g,i*ltZ j+k,none⟩=some u)∧E (fun b=>w.heap.size≤b∧LnD B c' b∧b≠g) w' i cs
 num:∀ q,n' q≤n q+S+1
theorem curG {w:World} {lo g n cap size:Nat} {e:TypeId} {xs:List Value} (h:w.ownsRow lo e size (.slice (some ⟨g,0,none⟩) n cap) n xs) (hn:0<n):∃ cur,w.heap[g]? =some (.cells cur e (0,0))∧lo≤g∧n≤cap∧∀ (j:Nat) (u:Value),xs[j]? =some u→cur[j]? =some u:=by
 rcases h.2 with ⟨_,h0⟩|⟨g',cap',cur,e1,e2,e3,e4,e5,e6,e7⟩
 · omega
 · simp only [Value.slice.injEq,Option.some.injEq,Addr.mk.injEq,and_true,true_and] at e1;obtain ⟨rfl,rfl⟩:=e1;refine ⟨cur,e3,e2,e4,fun j u hu=> ?_⟩;rw [← e7,List.getElem?_take] at hu
   split at hu
   · rw [← Array.getElem?_toList];exact hu
   · cases hu
theorem eltCur {z:Nat} {X:List Value} {cur:Array Value} (hget:∀ (j:Nat) (u:Value),X[j]? =some u→cur[j]? =some u) {i:Nat} (hl:i*z+z≤X.length) (k:Nat) (u:Value) (hu:(elt z X i)[k]? =some u):cur[i*z+k]? =some u:=by
 have hk:k<z:=by
  have h1:=(List.getElem?_eq_some_iff.1 hu).1;rw [elt_len hl] at h1;exact h1
 rw [elt_get hk] at hu;exact hget _ _ hu
theorem GsS.done {B j N:Nat} {E:(Nat→Prop)→World→Nat→List Value→Prop} {c c':Nat→Value} {n n':Nat→Nat} {Dm Dm':Nat→Prop} {w wr:World} {S g cap:Nat} {X:List Value} (H:GsS B j N E c c' n n' Dm Dm' w (N+16) S (.slice (some ⟨g,0,none⟩) (N+16) cap) X wr) (hE:q0t E) (hj:q0f j) (hj16:j<16) (hB:B<w.heap.size) (hN:N≤1048577) {xs:List Value} (ho:wr.ownsRow (B+1) (lnT j) 1 (c' j) (n' j) xs) (hm:∀ x∈xs,MkRt Dm' wr j x) {tmp:Obj} {w5 w6:World} {g5 cap5:Nat}
 (hown:w5.ownsRow (B+1) (lnT j) 1 (.slice (some ⟨g5,0,none⟩) (n' j+1) cap5) (n' j+1) (xs++[.slice (some ⟨g,0,none⟩) (N+16) cap])) (hgrow:(wr.alloc tmp).grownBy w5 (c' j).ownBlock) (hat:(c' j).ownBlock=some g5∨g5=wr.heap.size+1)
 (h6:w5.setCell ⟨B,j,none⟩ (.slice (some ⟨g5,0,none⟩) (n' j+1) cap5)=w6):
 ∃ D2,GsR B j N E c (lnU c' j (.slice (some ⟨g5,0,none⟩) (n' j+1) cap5)) n (lnU n' j (n' j+1)) Dm D2 w w6 S g cap:=by
 obtain ⟨cur,hcur,hlo,hfit,hget⟩:=curG H.own (by omega);obtain ⟨_,f2,f3,f4⟩:=H.far hj hB (g:=g) rfl;have hX:X.length=(N+16)*ltZ j:=H.own.1;have hlen:∀ i,i<N+16→i*ltZ j+ltZ j≤X.length:=fun i hi=>by rw [hX];exact q0C hi
 have hgd:LnD B c' g:=⟨by omega,f4⟩
 let D2:Nat→Prop:=fun b=>Dm' b∨(w.heap.size≤b∧b<wr.heap.size∧LnD B c' b)
 have hD2:∀ b,D2 b→b<wr.heap.size∧LnD B c' b:=fun b hb=>by
  rcases hb with hb|hb
  · exact H.loan.dom b hb
  · exact ⟨hb.2.1,hb.2.2⟩
 have hmk:MkRt D2 wr j (.slice (some ⟨g,0,none⟩) (N+16) cap):=by
  refine ⟨g,N+16,cap,cur,rfl,by omega,by omega,hfit,.inr ⟨hlo,f2,hgd⟩,hcur,fun i hi=>⟨elt (ltZ j) X (N+i),elt_len (hlen _ (by omega)),?_,fun k u hu=> ?_⟩⟩
  · exact MkC.keep j _ _ _ _ _ _ (Nat.le_refl _) (fun _ _ _=>rfl) (fun b hb hl=> .inr ⟨hb.1,hl,hb.2.1⟩) (H.marks i (by omega))
  · rw [Nat.add_sub_cancel];exact eltCur hget (hlen _ (by omega)) k u hu
 obtain ⟨hln,hkp⟩:=H.loan.push hj hj16 ho hm hown hgrow hat (fun b hb=> .inl hb) hD2 hmk h6;have hblk:w6.heap[g]? =wr.heap[g]? :=hkp.block g f2 f3 f4;refine ⟨D2,hln,H.kp.trans hkp,fun b hb=> ?_,hlo,LnD.keep hkp hgd f2,Nat.lt_of_lt_of_le f2 hkp.size,by omega,⟨cur,hblk.trans hcur⟩,fun i hi=>⟨elt (ltZ j) X i,elt_len (hlen i (by omega)),fun k u hu=> ?_,?_⟩,fun q=> ?_⟩
 · rcases hb with hb|hb
   · exact H.fr b hb
   · exact .inr hb.1
 · have h1:w6.cell? ⟨g,i*ltZ j+k,none⟩=cur[i*ltZ j+k]? :=cell_of_row _ _ _ _ _ _ (hblk.trans hcur);rw [h1];exact eltCur hget (hlen i (by omega)) k u hu
 · exact hE _ _ _ _ _ _ hkp.size (fun b hb hl=>hkp.block b hl (by have:=hb.2.1.1;omega) hb.2.1.2) (fun b hb hl=>⟨hb.1,LnD.keep hkp hb.2.1 hl,fun e=>hb.2.2 (by simp [Value.ownBlock,e])⟩) (H.elems i hi (by omega))
 · have h1:=H.num q;by_cases hq:q=j
   · subst hq;rw [q0p];omega
   · rw [q0c _ _ hq];omega
theorem GsS.start {B j N:Nat} {E:(Nat→Prop)→World→Nat→List Value→Prop} {c:Nat→Value} {n:Nat→Nat} {Dm:Nat→Prop} {w:World} (h:LtAt B w c n Dm):GsS B j N E c c n n Dm Dm w 0 0 (.slice none 0 0) [] w:=
 ⟨h,KpL.refl _ _ _,fun b hb=> .inl hb,(fun b hb=>by cases hb),World.ownsRow_nil _ _ _ _,fun i _ h2=>absurd h2 (Nat.not_lt_zero _),fun i h1=>absurd h1 (Nat.not_lt_zero _),fun q=>Nat.le_refl _⟩
end Go.Proofs.YtnokkmiaeacogaaGreat
namespace Go.Proofs.YtnokkmiaeacogaaGreat
open Go.RowKit
attribute [local go_sem] Oper.semAt_some
def sumF (f:Nat→Nat):Nat→Nat
 | 0=>0
 | k+1=>sumF f k+f k
theorem q0W (f:Nat→Nat) (k:Nat):sumF f (k+1)=sumF f k+f k:=rfl
theorem sumF_mono (f:Nat→Nat):∀ (d k:Nat),sumF f k≤sumF f (k+d)
 | 0,k=>Nat.le_refl _
 | d+1,k=>Nat.le_trans (sumF_mono f d k) (Nat.le_add_right _ _)
theorem sumF_le (f:Nat→Nat) {k N:Nat} (h:k<N):sumF f k+f k≤sumF f N:=by
 have h1:=sumF_mono f (N-(k+1)) (k+1);rw [show k+1+(N-(k+1))=N by omega] at h1;exact h1
theorem q0i (w:World) (o1 o2:Obj):((w.alloc o1).alloc o2).heap[w.heap.size+1]? =some o2∧Below w.heap.size w ((w.alloc o1).alloc o2):=by
 refine ⟨?_,(q05 w o1).trans ((q05 (w.alloc o1) o2).mono (by simp))⟩;have:=heap_alloc_new (w.alloc o1) o2;rwa [World.size_alloc] at this
end Go.Proofs.YtnokkmiaeacogaaGreat
