import Derived.Test.YtdjleoglphgdgaaGreatDoorM37
import Derived.Test.YtdjleoglphgdgaaGreatDoorM36
import Derived.Test.YtdjleoglphgdgaaGreatDoorM35
import Derived.ArgAppend
set_option linter.unusedVariables false
set_option linter.unusedSimpArgs false
namespace Go.Proofs.YtdjleoglphgdgaaGreatDoor
open Go.RowKit Go.Shelf
set_option maxRecDepth 100000
set_option maxHeartbeats 12800000
structure RB (l:List Value) (n c:Nat) (cs:List Value):Prop where
 len:l.length=c*10
 le:n≤c
 mx:c≤maxLen
 tk:l.take (n*10)=cs
 cl:cs.length=n*10
section
variable {Fl:Bool} {D:Nat→Prop} {r0:Option Nat} {w W W':World} {B:Nat} {so:Option Addr} {sc:Nat} {ws:List Tok} {nb t o:Nat} {bx:List (Nat × List Value × TypeId)} {rv:Value} {Ts:List NT} {tr:List (NT × NV)}
theorem SB.perm {bx':List (Nat × List Value × TypeId)} (h:SB Fl D r0 w B so sc ws nb t o bx rv Ts tr W) (hp:bx.Perm bx'):SB Fl D r0 w B so sc ws nb t o bx' rv Ts tr W:=by
 have hm:∀ p,p∈bx'→p∈bx:=fun p hq=>hp.mem_iff.2 hq;have hlo:∀ b,Dm D bx rv b→b<W.heap.size→Dm D bx' rv b:=fun b hd _=>⟨hd.1,fun p hq=>hd.2.1 p (hm p hq),hd.2.2⟩;obtain ⟨ds,hr⟩:=h.row;exact ⟨h.bo,h.px,fun p hq=>h.bxs p (hm p hq),(List.Perm.pairwise_iff (fun h e=>h e.symm) hp).1 h.apart,⟨ds,hr.weak hlo⟩,fun g hg=>⟨(h.rok g hg).1,(h.rok g hg).2.1,(h.rok g hg).2.2.1,fun p hq=>(h.rok g hg).2.2.2 p (hm p hq)⟩,h.r0k,fun q hq=>(h.trs q hq).weak hlo,h.dn,h.db,h.hB,h.p0,h.fu⟩
theorem SB.ownB (h:SB Fl D r0 w B so sc ws nb t o bx rv Ts tr W) {g n c:Nat} {l cs:List Value} (hm:(g,l,28)∈bx) (hl:RB l n c cs) (X:Obj):(W.alloc X).ownsRow 0 28 10 (.slice (some ⟨g,0,none⟩) n c) n cs:=
 ⟨hl.cl,.inr ⟨g,c,l.toArray,rfl,Nat.zero_le _,(Below.heap_alloc _ _ _ (h.bxs _ hm).2.1).trans (h.bxs _ hm).2.2,hl.le,hl.mx,by simpa using hl.len,hl.tk⟩⟩
theorem SB.appB {ob:List (Nat × List Value × TypeId)} (h:SB Fl D r0 w B so sc ws nb t o (ob++bx) rv Ts tr W) {v v':Value} {n1:Nat} {xs:List Value} (hn1:0<n1) (hob:(ob=[]∧v.ownBlock=none)∨∃ g l,ob=[(g,l,28)]∧v.ownBlock=some g) (X:Obj) (hown:W'.ownsRow 0 28 10 v' n1 xs) (hg:(W.alloc X).grownBy W' v.ownBlock) (hat:v'.ownBlock=v.ownBlock∨v'.ownBlock=some (W.heap.size+1)):
 ∃ g l c,v'= .slice (some ⟨g,0,none⟩) n1 c∧RB l n1 c xs∧SB Fl D r0 w B so sc ws nb t o ((g,l,28)::bx) rv Ts tr W':=by
 rcases hown.2 with ⟨_,e⟩|⟨g,c,cur,e,_,hh,h1,h2,h3,h4⟩
 · omega
 refine ⟨g,cur.toList,c,e,⟨by simpa using h3,h1,h2,h4,hown.1⟩,?_⟩;have hgv:v'.ownBlock=some g:=by rw [e];rfl
 have hgn:(∃ l,ob=[(g,l,28)])∨g=W.heap.size+1:=by
  rcases hat with e1|e1
  · rw [hgv] at e1;rcases hob with ⟨_,e2⟩|⟨g2,l,e2,e3⟩
    · rw [e2] at e1;cases e1
    · rw [e3] at e1;injection e1 with e1;subst e1;exact .inl ⟨l,e2⟩
  · rw [hgv] at e1;injection e1 with e1;exact .inr e1
 have hvn:∀ k,(∀ p∈ob++bx,k≠p.1)→v.ownBlock≠some k:=fun k hk e1=>by
  rcases hob with ⟨_,e2⟩|⟨g2,l,e2,e3⟩
  · rw [e2] at e1;cases e1
  · rw [e3] at e1;injection e1 with e1;exact hk (g2,l,_) (by rw [e2];exact mcS) e1.symm
 have hB:=h.hB;have hX:(W.alloc X).heap.size=W.heap.size+1:=by simp
 have hsz:W.heap.size≤W'.heap.size:=by have:=hg.size;omega
 have hblk:∀ k,k<W.heap.size→v.ownBlock≠some k→W'.heap[k]? =W.heap[k]? :=fun k hk hn=>(hg.block k (by omega) (fun e=>hn e.symm)).trans (Below.heap_alloc _ _ _ hk)
 have hgw:w.heap.size≤g:=by
  rcases hgn with ⟨l,e1⟩|e1
  · exact (h.bxs (g,l,_) (by rw [e1];exact mcS)).1
  · have:=h.bo.size;omega
 have hgx:∀ p∈bx,g≠p.1:=fun p hp=>by
  rcases hgn with ⟨l,e1⟩|e1
  · have h5:=h.apart;rw [e1] at h5;exact (List.pairwise_cons.1 h5).1 p hp
  · have:=(h.bxs p (List.mem_append_right _ hp)).2.1;omega
 have hgr:∀ k,rv.ownBlock=some k→k≠g:=fun k hk=>by
  rcases hgn with ⟨l,e1⟩|e1
  · exact (h.rok k hk).2.2.2 (g,l,_) (by rw [e1];exact mcS)
  · have:=(h.rok k hk).2.2.1;omega
 have hs:∀ b,Dm D (ob++bx) rv b→b<W.heap.size→W'.heap[b]? =W.heap[b]? :=fun b hd hl=>hblk b hl (hvn b hd.2.1)
 have hlo:∀ b,Dm D (ob++bx) rv b→b<W.heap.size→Dm D ((g,cur.toList,28)::bx) rv b:=fun b hd hl=>⟨hd.1,fun p hp=>by
  rcases List.mem_cons.1 hp with rfl|hp
  · rcases hgn with ⟨l,e1⟩|e1
    · exact hd.2.1 (g,l,_) (by rw [e1];exact mcS)
    · show b≠g;omega
  · exact hd.2.1 p (List.mem_append_right _ hp),hd.2.2⟩
 have hrg:∀ k,rv.ownBlock=some k→W'.heap[k]? =W.heap[k]? :=fun k hk=>hblk k (h.rok k hk).2.2.1 (hvn k (h.rok k hk).2.2.2)
 have hlow:∀ k,k<w.heap.size→v.ownBlock≠some k:=fun k hk e1=>by
  rcases hob with ⟨_,e2⟩|⟨g2,l,e2,e3⟩
  · rw [e2] at e1;cases e1
  · rw [e3] at e1;injection e1 with e1;have:=(h.bxs (g2,l,_) (by rw [e2];exact mcS)).1;have:w.heap.size≤g2:=this;omega
 have hbo:Bo B r0 w W':=⟨hg.os.trans h.bo.os,hg.tape.trans h.bo.tape,hg.output.trans h.bo.output,Nat.le_trans h.bo.size hsz,fun k hk h1 h2=>(hblk k (Nat.lt_of_lt_of_le hk h.bo.size) (hlow k hk)).trans (h.bo.block k hk h1 h2)⟩;obtain ⟨ds,hr⟩:=h.row;refine ⟨hbo,?_,fun p hp=> ?_,List.Pairwise.cons hgx (List.pairwise_append.1 h.apart).2.1,⟨ds,hr.keep hsz hs hlo hrg⟩,fun k hk=>⟨(h.rok k hk).1,(h.rok k hk).2.1,Nat.lt_of_lt_of_le (h.rok k hk).2.2.1 hsz,fun p hp=> ?_⟩,h.r0k,fun q hq=>(h.trs q hq).keep hsz hs hlo,h.dn,h.db,hB,h.p0,fun e=>(h.fu e).keep hrg⟩
 · obtain ⟨t0,o0,h0⟩:=h.p0;exact PX.of0 h0 hbo h.r0k ((hblk B (Nat.lt_of_lt_of_le hB h.bo.size) (hlow B hB)).trans h.px.pat.box) h.px.pat.le h.px.pat.open_
 · rcases List.mem_cons.1 hp with rfl|hp
   · exact ⟨hgw,(Array.getElem?_eq_some_iff.1 hh).1,hh⟩
   · obtain ⟨k1,k2,k3⟩:=h.bxs p (List.mem_append_right _ hp);refine ⟨k1,Nat.lt_of_lt_of_le k2 hsz,(hblk p.1 k2 (fun e1=> ?_)).trans k3⟩;rcases hob with ⟨_,e2⟩|⟨g2,l,e2,e3⟩
     · rw [e2] at e1;cases e1
     · rw [e3] at e1;injection e1 with e1;have h5:=h.apart;rw [e2] at h5;exact (List.pairwise_cons.1 h5).1 p hp e1
 · rcases List.mem_cons.1 hp with rfl|hp
   · exact hgr k hk
   · exact (h.rok k hk).2.2.2 p (List.mem_append_right _ hp)
theorem SB.rowB (h:SB Fl D r0 w B so sc ws nb t o bx rv Ts tr W) {g c:Nat} {l:List Value} {Us:List NT} {es:List NV} (hm:(g,l,28)∈bx) (hl:RB l Us.length c (es.flatMap NV.l)) (hle:es.length=Us.length) {D':Nat→Prop} (he:∀ (i:Nat) T d,Us[i]? =some T→es[i]? =some d→NdI D' W T d):NRw D' W (.slice (some ⟨g,0,none⟩) Us.length c) Us es:=
 ⟨⟨hl.cl,.inr ⟨g,c,l.toArray,rfl,Nat.zero_le _,(h.bxs _ hm).2.2,hl.le,hl.mx,by simpa using hl.len,hl.tk⟩⟩,hle,he⟩
theorem SB.stepR {g:Nat} {l:List Value} {ty:TypeId} {t' o':Nat} (h:SB Fl D r0 w B so sc ws nb t o ((g,l,ty)::bx) rv Ts tr W) (hb:Bo B (some g) W W') (hp:PX W' B so sc ws nb t' o'):SB Fl D r0 w B so sc ws nb t' o' bx rv Ts tr W':=by
 have hB:=h.hB;have hgw:w.heap.size≤g:=(h.bxs _ mcS).1;have hs:∀ b,Dm D ((g,l,ty)::bx) rv b→b<W.heap.size→W'.heap[b]? =W.heap[b]? :=fun b hd hl=>hb.block b hl (h.db b hd.1) (fun e=>by injection e with e;exact hd.2.1 _ mcS e.symm);have hlo:∀ b,Dm D ((g,l,ty)::bx) rv b→b<W.heap.size→Dm D bx rv b:=fun b hd _=>⟨hd.1,fun p hp=>hd.2.1 p (List.mem_cons_of_mem _ hp),hd.2.2⟩;have hrg:∀ k,rv.ownBlock=some k→W'.heap[k]? =W.heap[k]? :=fun k hk=>hb.block k (h.rok k hk).2.2.1 (h.rok k hk).2.1 (fun e=>by injection e with e;exact (h.rok k hk).2.2.2 _ mcS e.symm);have hap:=List.pairwise_cons.1 h.apart;obtain ⟨ds,hr⟩:=h.row;refine ⟨⟨hb.os.trans h.bo.os,hb.tape.trans h.bo.tape,hb.output.trans h.bo.output,Nat.le_trans h.bo.size hb.size,fun k hk h1 h2=>(hb.block k (Nat.lt_of_lt_of_le hk h.bo.size) h1 (fun e=>by injection e with e;omega)).trans (h.bo.block k hk h1 h2)⟩,hp,fun p hq=> ?_,hap.2,⟨ds,hr.keep hb.size hs hlo hrg⟩,fun k hk=>⟨(h.rok k hk).1,(h.rok k hk).2.1,Nat.lt_of_lt_of_le (h.rok k hk).2.2.1 hb.size,fun p hp=>(h.rok k hk).2.2.2 p (List.mem_cons_of_mem _ hp)⟩,h.r0k,fun q hq=>(h.trs q hq).keep hb.size hs hlo,h.dn,h.db,hB,h.p0,fun e=>(h.fu e).keep hrg⟩;obtain ⟨k1,k2,k3⟩:=h.bxs p (List.mem_cons_of_mem _ hq);exact ⟨k1,Nat.lt_of_lt_of_le k2 hb.size,(hb.block p.1 k2 (by omega) (fun e=>by injection e with e;exact hap.1 p hq e)).trans k3⟩
theorem SB.dBox {g:Nat} {l:List Value} {ty:TypeId} (h:SB Fl D r0 w B so sc ws nb t o ((g,l,ty)::bx) rv Ts tr W):Dm D bx rv g∧g<W.heap.size∧g≠B∧g≠2∧∀ off,0<ws.length→so≠some ⟨g,off,none⟩:=by
 obtain ⟨k1,k2,k3⟩:=h.bxs _ mcS;have k1':w.heap.size≤g:=k1;have hB:=h.hB;obtain ⟨t0,o0,h0⟩:=h.p0;refine ⟨⟨h.dn g k1,(List.pairwise_cons.1 h.apart).1,fun e=>(h.rok g e).2.2.2 _ mcS rfl⟩,k2,by omega,?_,?_⟩
 · obtain ⟨ty,ho⟩:=h0.ops;have:=(Array.getElem?_eq_some_iff.1 ho).1;intro e;subst e;omega
 · intro off hw e;obtain ⟨g',off',e',hl,_⟩:=h0.pat.row 0 hw;rw [e] at e';injection e' with e';injection e' with e1 _;omega
theorem SB.rowNodeR (h:SB Fl D r0 w B so sc ws nb t o bx rv Ts tr W) (hD:∀ g,r0=some g→D g) {ko:Option Addr} {kc:Nat} (hv:rv= .slice ko Ts.length kc) (op at_:Int) (tx:ByteArray) (htx:tx.size≤140737488355328) (hn:Ts.length≤140737488355328):
 NdI D W (.mk op at_ tx vtN [] Ts) ⟨op,at_,0,tx,⟨#[]⟩,⟨#[]⟩,none,none,none,ko,0,0,0,0,0,0,Ts.length,kc⟩:=by
 obtain ⟨ds,hr⟩:=h.row;subst hv
 exact NdI.kids op at_ tx htx hr (fun b hb _=>hb.1) (fun g hg=>by
  obtain ⟨k1,k2,k3,_⟩:=h.rok g hg;rcases k1 with k1|k1
  · exact ⟨h.dn g k1,k3⟩
  · exact ⟨hD g k1,k3⟩) hn
theorem SB.stepRow {t' o':Nat} (h:SB Fl D r0 w B so sc ws nb t o bx rv Ts tr W) (hb:Bo B rv.ownBlock W W') (hp:PX W' B so sc ws nb t' o'):SB Fl D r0 w B so sc ws nb t' o' bx (.slice none 0 0) [] tr W':=by
 have hB:=h.hB;have hs:∀ b,Dm D bx rv b→b<W.heap.size→W'.heap[b]? =W.heap[b]? :=fun b hd hl=>hb.block b hl (h.db b hd.1) hd.2.2;have hlo:∀ b,Dm D bx rv b→b<W.heap.size→Dm D bx (.slice none 0 0) b:=fun b hd _=>⟨hd.1,hd.2.1,fun e=>by cases e⟩;refine ⟨h.boR hb,hp,fun p hq=> ?_,h.apart,⟨[],NRw.nil _ _⟩,(fun g hg=>by cases hg),h.r0k,fun q hq=>(h.trs q hq).keep hb.size hs hlo,h.dn,h.db,hB,h.p0,fun _ g hg=>by cases hg⟩;obtain ⟨k1,k2,k3⟩:=h.bxs p hq;exact ⟨k1,Nat.lt_of_lt_of_le k2 hb.size,(hb.block p.1 k2 (by omega) (fun e=>(h.rok _ e).2.2.2 p hq rfl)).trans k3⟩
theorem SB.rowD (h:SB Fl D r0 w B so sc ws nb t o bx rv Ts tr W) (hD:∀ g,r0=some g→D g):∀ g,rv.ownBlock=some g→D g∧∀ p∈bx,g≠p.1:=fun g hg=>by
 obtain ⟨k1,k2,k3,k4⟩:=h.rok g hg;rcases k1 with k1|k1
 · exact ⟨h.dn g k1,k4⟩
 · exact ⟨hD g k1,k4⟩
end
def PxN (B:Nat) (so:Option Addr) (sc:Nat) (ws:List Tok) (nb:Nat) (D:Nat→Prop) (r0:Option Nat) (w:World) (r:Pr NT) (e:Ending) (w':World):Prop:=Bo B r0 w w'∧
 match r with
 | .ok a t o=>(∃ v,e= .returned v∧NdE D a w' v)∧PX w' B so sc ws nb t o
 | .bad er q=>e= .panicked (fcs er q)
def kdLX (op at_:Int) (v:Value):List Value:=[.int .i64 op,.int .i64 at_,.string ⟨#[]⟩,.int .i64 0,.string ⟨#[]⟩,.string ⟨#[]⟩,.slice none 0 0,.slice none 0 0,.slice none 0 0,v]
def NodeW (B:Nat) (so:Option Addr) (sc:Nat) (ws:List Tok) (nb:Nat) (fn:FuncId) (args:Value→Array Value) (m:Nat) (op at_:Int) (x:NT→PM NT):Prop:=∀ (D:Nat→Prop) (u:World) (t o:Nat) (rv:Value) (Ts:List NT) (ds:List NV),(∀ b,u.heap.size≤b→D b)→(∀ b,D b→b≠B)→PX u B so sc ws nb t o→m≤t→NRw (Dm D [] rv) u rv Ts ds→(∀ g,rv.ownBlock=some g→D g)→(∀ g,rv.ownBlock=some g→g<u.heap.size∧g≠B∧g≠2∧∀ off,0<ws.length→so≠some ⟨g,off,none⟩)→Ts.length≤2*t+4→
 Calls Tryz.prog fn (args (.agg (kdLX op at_ rv).toArray)) u fun e w'=>PxN B so sc ws nb D rv.ownBlock u (x (.mk op at_ .empty vtN [] Ts) t o) e w'
end Go.Proofs.YtdjleoglphgdgaaGreatDoor
namespace Go.Proofs.YtdjleoglphgdgaaGreatDoor
open Go.RowKit Go.Shelf
attribute [local go_sem] Oper.semAt_some
set_option maxRecDepth 100000
set_option maxHeartbeats 12800000
def NodeL (B:Nat) (so:Option Addr) (sc:Nat) (ws:List Tok) (nb:Nat) (fn:FuncId) (m:Nat) (x:PM NT):Prop:=∀ (D:Nat→Prop) (u:World) (t o:Nat),(∀ b,u.heap.size≤b→D b)→(∀ b,D b→b≠B)→PX u B so sc ws nb t o→m≤t→t<ws.length→Calls Tryz.prog fn #[.pointer (some ⟨B,0,none⟩)] u fun e w'=>PxR B so sc ws nb u (NdE D) (x t o) e w'
section
variable {B:Nat} {so:Option Addr} {sc:Nat} {ws:List Tok} {nb:Nat} {m:Nat} {P:PM NT} {O:Nat→PM NT}
theorem shortX (D:Nat→Prop) (x:Tok) (hx:x.text.length≤140737488355328) (u:World) (dn:∀ b,u.heap.size≤b→D b):Calls Tryz.prog 283 #[tokV x] u fun e w'=>∃ d:NV,e= .returned d.v∧Below u.heap.size u w'∧NdI D w' (if x.kind=3 then varP x else fldP x) d:=by
 have H1:=hQz (fun W=>varX (fun _=>False) x hx W);have H2:Hid (∀ W,(∀ b,W.heap.size≤b→D b∧b≠u.heap.size+1)→Calls Tryz.prog 256 #[tokV x] W fun e w'=>∃ d:NV,e= .returned d.v∧Below W.heap.size W w'∧NdI (fun b=>D b∧b≠u.heap.size+1) w' (fldP x) d):=fun W h=>fieldX _ x hx W h;have Hdn:=hQz dn;obtain ⟨kd,pa,fi,tx,er⟩:=x;unfold tokV at H1 H2 ⊢;generalize hF:fldP ⟨kd,pa,fi,tx,er⟩=F at *;generalize hV:varP ⟨kd,pa,fi,tx,er⟩=V at *;dsimp only at *;clear hF hV hx dn
 have HQ:Hid (∀ W,Below (u.heap.size+2) ((u.alloc (.cells #[.int .i64 (kd:Int),.int .i64 (pa:Int),.int .i64 (fi:Int),.string ⟨tx.toArray⟩] 82)).alloc (.cells #[.int .i64 0,.int .i64 0,.string ⟨#[]⟩,.int .i64 0,.string ⟨#[]⟩,.string ⟨#[]⟩,.slice none 0 0,.slice none 0 0,.slice none 0 0,.slice none 0 0] 28)) W→Below u.heap.size u W∧W.heap[u.heap.size+1]? =some (.cells #[.int .i64 0,.int .i64 0,.string ⟨#[]⟩,.int .i64 0,.string ⟨#[]⟩,.string ⟨#[]⟩,.slice none 0 0,.slice none 0 0,.slice none 0 0,.slice none 0 0] 28 (0,0))∧u.heap.size+2≤W.heap.size):=fun W hb=>by
  refine ⟨((q0a u _).alloc (by simp) _).trans (hb.mono (by omega)),(hb.block _ (by omega)).trans ?_,by have:=hb.size;simpa using this⟩;have:=heap_alloc_new (u.alloc (.cells #[.int .i64 (kd:Int),.int .i64 (pa:Int),.int .i64 (fi:Int),.string ⟨tx.toArray⟩] 82)) (.cells #[.int .i64 0,.int .i64 0,.string ⟨#[]⟩,.int .i64 0,.string ⟨#[]⟩,.string ⟨#[]⟩,.slice none 0 0,.slice none 0 0,.slice none 0 0,.slice none 0 0] 28);rwa [World.size_alloc] at this
 by_cases k3:kd=3
 · rw [if_pos k3];subst k3;go_in;go_wp2_with fail;refine (H1.out _).mono ?_;rintro e w1 ⟨d1,rfl,hb,hd⟩;obtain ⟨hB,q1,hz⟩:=HQ.out _ (show Below (u.heap.size+2) _ w1 by simpa using hb);obtain ⟨n0,n1,n2,n3,n4,n5,n6,n7,n8,n9⟩:=q00 q1;obtain ⟨f0,f1,f2,f3,f4,f5,f6,f7,f8,f9⟩:=q03 q1;have HD:=hQz hd;have HW:=hQz (And.intro hB (And.intro q1 hz));clear hb hd hB q1 hz;obtain ⟨op1,at1,vk1,tx1,nu1,vt1,io1,yo1,no1,ko1,iN1,ic1,yN1,yc1,nN1,nc1,kN1,kc1⟩:=d1;unfold NV.v NV.l;dsimp only;go_wp2_with fail;generalize hzZ:((((((((((w1).setCell ⟨u.heap.size+1,0,none⟩ (.int .i64 op1)).setCell ⟨u.heap.size+1,1,none⟩ (.int .i64 at1)).setCell ⟨u.heap.size+1,2,none⟩ (.string tx1)).setCell ⟨u.heap.size+1,3,none⟩ (.int .i64 vk1)).setCell ⟨u.heap.size+1,4,none⟩ (.string nu1)).setCell ⟨u.heap.size+1,5,none⟩ (.string vt1)).setCell ⟨u.heap.size+1,6,none⟩ (.slice io1 iN1 ic1)).setCell ⟨u.heap.size+1,7,none⟩ (.slice yo1 yN1 yc1)).setCell ⟨u.heap.size+1,8,none⟩ (.slice no1 nN1 nc1)).setCell ⟨u.heap.size+1,9,none⟩ (.slice ko1 kN1 kc1)=WZ;have PZ:=q0J HW.out.2.1 hzZ;obtain ⟨m0,m1,m2,m3,m4,m5,m6,m7,m8,m9⟩:=q00 PZ.new;have HPZ:=hQz PZ;refine bodyPost_ret (v:= .agg #[.int .i64 op1,.int .i64 at1,.string tx1,.int .i64 vk1,.string nu1,.string vt1,.slice io1 iN1 ic1,.slice yo1 yN1 yc1,.slice no1 nN1 nc1,.slice ko1 kN1 kc1]) (by simp [results,Tryz.results283,go_sem,m0,m1,m2,m3,m4,m5,m6,m7,m8,m9]) rfl ?_;exact ⟨⟨op1,at1,vk1,tx1,nu1,vt1,io1,yo1,no1,ko1,iN1,ic1,yN1,yc1,nN1,nc1,kN1,kc1⟩,rfl,HW.out.1.trans (PZ.below (by omega)),HD.out.keep (by rw [PZ.size];exact Nat.le_refl _) (fun b hb=>hb.elim) (fun b hb=>hb.elim)⟩
 · rw [if_neg k3];have q3:((kd:Int)==3)=false:=by rw [bqZ];omega
   go_in;go_wp2_with fail;refine (H2.out _ (fun b hb=>⟨Hdn.out b (by simp at hb;omega),by simp at hb;omega⟩)).mono ?_;rintro e w1 ⟨d1,rfl,hb,hd⟩;obtain ⟨hB,q1,hz⟩:=HQ.out _ (show Below (u.heap.size+2) _ w1 by simpa using hb);obtain ⟨n0,n1,n2,n3,n4,n5,n6,n7,n8,n9⟩:=q00 q1;obtain ⟨f0,f1,f2,f3,f4,f5,f6,f7,f8,f9⟩:=q03 q1;have HD:=hQz hd;have HW:=hQz (And.intro hB (And.intro q1 hz));clear hb hd hB q1 hz;obtain ⟨op1,at1,vk1,tx1,nu1,vt1,io1,yo1,no1,ko1,iN1,ic1,yN1,yc1,nN1,nc1,kN1,kc1⟩:=d1;unfold NV.v NV.l;dsimp only;go_wp2_with fail;generalize hzZ:((((((((((w1).setCell ⟨u.heap.size+1,0,none⟩ (.int .i64 op1)).setCell ⟨u.heap.size+1,1,none⟩ (.int .i64 at1)).setCell ⟨u.heap.size+1,2,none⟩ (.string tx1)).setCell ⟨u.heap.size+1,3,none⟩ (.int .i64 vk1)).setCell ⟨u.heap.size+1,4,none⟩ (.string nu1)).setCell ⟨u.heap.size+1,5,none⟩ (.string vt1)).setCell ⟨u.heap.size+1,6,none⟩ (.slice io1 iN1 ic1)).setCell ⟨u.heap.size+1,7,none⟩ (.slice yo1 yN1 yc1)).setCell ⟨u.heap.size+1,8,none⟩ (.slice no1 nN1 nc1)).setCell ⟨u.heap.size+1,9,none⟩ (.slice ko1 kN1 kc1)=WZ;have PZ:=q0J HW.out.2.1 hzZ;obtain ⟨m0,m1,m2,m3,m4,m5,m6,m7,m8,m9⟩:=q00 PZ.new;have HPZ:=hQz PZ;refine bodyPost_ret (v:= .agg #[.int .i64 op1,.int .i64 at1,.string tx1,.int .i64 vk1,.string nu1,.string vt1,.slice io1 iN1 ic1,.slice yo1 yN1 yc1,.slice no1 nN1 nc1,.slice ko1 kN1 kc1]) (by simp [results,Tryz.results283,go_sem,m0,m1,m2,m3,m4,m5,m6,m7,m8,m9]) rfl ?_;exact ⟨⟨op1,at1,vk1,tx1,nu1,vt1,io1,yo1,no1,ko1,iN1,ic1,yN1,yc1,nN1,nc1,kN1,kc1⟩,rfl,HW.out.1.trans (PZ.below (by omega)),HD.out.keep (by rw [PZ.size];exact Nat.le_refl _) (fun b hb _=>HPZ.out.rest b hb.2) (fun b hb _=>hb.1)⟩
theorem callX (h:PO B so sc ws nb (m+1) P O):NodeL B so sc ws nb 259 m (callP ws nb P):=by
 intro D u t o dn db hx hm ht;obtain ⟨R,hR⟩:∃ R,callP ws nb P t o=R:=⟨_,rfl⟩;rw [hR];unfold callP at hR;have HR:=hQz hR;have HPO:=hQz h;have HS0:=hQz (SB.new (Fl:=false) (tr:=[]) hx dn db (fun q hq=>by simp at hq));have HX:=hQz (And.intro hx.pat.le hx.pat.open_);have HM:=hQz hm;have hfl0:=Tryz.fldX0;have hfl1:=Tryz.fldX1;have hfl3:=Tryz.fldX3;clear hR h hx hm dn db;have Htx:=hQz (HPO.out.tx t);have Hlt:=hQz ht;clear ht;go_in;go_wp2_with fail;have HS1:=hQz (HS0.out.al0);refine (q1l Hlt.out _ HS1.out.px).mono ?_;rintro e w1 ⟨rfl,hb,hp⟩;have HS2:=hQz (HS1.out.step hb hp);clear hb hp;have hR:=HR.out;rw [q02 (x:=q0K ws) rfl] at hR;(try dsimp only at hR)
 replace HR:=hQz hR;clear hR;generalize hrP ws t=X at *;obtain ⟨kd,pa,fi,tx,er⟩:=X;unfold tokV;dsimp only at HR Htx ⊢;obtain ⟨W2,hW2⟩:∃ W,w1.alloc (.cells #[.int .i64 (kd:Int),.int .i64 (pa:Int),.int .i64 (fi:Int),.string ⟨tx.toArray⟩] 82)=W:=⟨_,rfl⟩;have HS3:=hQz (HS2.out.alloc [.int .i64 (kd:Int),.int .i64 (pa:Int),.int .i64 (fi:Int),.string ⟨tx.toArray⟩] 82);rw [hW2] at HS3;obtain ⟨c0,c1,c2,c3⟩:=q08 HS3.out.bb0;go_wp2_with fail;have HS4:=hQz (HS3.out.alloc [.int .i64 33,.int .i64 (pa:Int),.string ⟨tx.toArray⟩,.int .i64 0,.string ⟨#[]⟩,.string ⟨#[]⟩,.slice none 0 0,.slice none 0 0,.slice none 0 0,.slice none 0 0] 28);obtain ⟨c,hc⟩:∃ c,syP ws (t+1) [40]=c:=⟨_,rfl⟩
 cases c with
 | true=>
  refine (q0p [40] hc _ HS4.out.px).mono ?_;rintro e w3 ⟨rfl,hb⟩;have HS5:=hQz (HS4.out.keep hb);clear hb;clear hW2 c0 c1 c2 c3;have hR:=HR.out;rw [if_pos hc] at hR;replace HR:=hQz hR;clear hR;go_wp2_with fail;refine (pipes1X HPO.out _ _ _ _ HS5.out.dnR HS5.out.dbR HS5.out.px (by have:=HM.out;omega)).mono ?_;rintro e w4 ⟨hb,hm⟩;(try dsimp only at hm)
  have hR:=HR.out;obtain ⟨er,q,hr⟩|⟨Ks,t2,o2,hr⟩:=q0o (q23 ws nb P [] 1 9223372036854775807 (t+1) o)
  · rw [hr] at hm;rw [q04 hr] at hR;obtain rfl:e= .panicked (fcs er q):=hm;exact ⟨rfl,(HS5.out.boR hb).toBt,by rw [← hR]⟩
  rw [hr] at hm;rw [q02 hr] at hR;(try dsimp only at hR)
  obtain ⟨⟨v,rfl,hE⟩,hp,hln⟩:=hm;have HLn4:=hQz hln;replace HR:=hQz hR;have HS6:=hQz (HS5.out.rowcall hb hp hE);clear hb hp hr hR hE hln;obtain ⟨ko,kc,hv⟩:=HS6.out.rowV;subst hv;have HLn:=HLn4;obtain ⟨s0,s1,s2,s3,s4,s5,s6,s7,s8,s9⟩:=q00 HS6.out.bb0;obtain ⟨sf0,sf1,sf2,sf3,sf4,sf5,sf6,sf7,sf8,sf9⟩:=q03 HS6.out.bb0;obtain ⟨W5,hW5⟩:∃ W,w4.setCell ⟨W2.heap.size,9,none⟩ (.slice ko Ks.length kc)=W:=⟨_,rfl⟩;have P5:=q15 HS6.out.bb0 hW5;have HS7:=hQz (HS6.out.put 0 _ _ [.int .i64 33,.int .i64 (pa:Int),.string ⟨tx.toArray⟩,.int .i64 0,.string ⟨#[]⟩,.string ⟨#[]⟩,.slice none 0 0,.slice none 0 0,.slice none 0 0,.slice ko Ks.length kc] _ rfl P5);clear P5;obtain ⟨c0,c1,c2,c3,c4,c5,c6,c7,c8,c9⟩:=q00 HS7.out.bb0;obtain ⟨r0,r1,r2,r3,r4,r5,r6,r7,r8,r9⟩:=q00 HS7.out.bb2;obtain ⟨rf0,rf1,rf2,rf3,rf4,rf5,rf6,rf7,rf8,rf9⟩:=q03 HS7.out.bb2;go_wp2_with fail;refine SB.st10 HS7.out 2 rfl rfl fun WZ HZ=>q0C Tryz.results259 rfl rfl rfl HZ.bb2 ⟨HZ.bo.toBt,?_⟩;rw [← HR.out];exact ⟨⟨_,rfl,⟨33,(pa:Int),0,⟨tx.toArray⟩,⟨#[]⟩,⟨#[]⟩,none,none,none,ko,0,0,0,0,0,0,Ks.length,kc⟩,rfl,HZ.rowNode rfl 33 (pa:Int) ⟨tx.toArray⟩ (by have:=Htx.out;show tx.length≤_;omega) (by have:=HLn.out;have:=HZ.px.pat.le;have:=HZ.px.pat.few;omega)⟩,HZ.px⟩
 | false=>
  refine (q0p [40] hc _ HS4.out.px).mono ?_;rintro e w3 ⟨rfl,hb⟩;have HS5:=hQz (HS4.out.keep hb);clear hb;clear hW2 c0 c1 c2 c3;have hR:=HR.out;rw [if_neg (by rw [hc];decide)] at hR;replace HR:=hQz hR;clear hR;obtain ⟨c0,c1,c2,c3,c4,c5,c6,c7,c8,c9⟩:=q00 HS5.out.bb0;obtain ⟨r0,r1,r2,r3,r4,r5,r6,r7,r8,r9⟩:=q00 HS5.out.bb2;obtain ⟨rf0,rf1,rf2,rf3,rf4,rf5,rf6,rf7,rf8,rf9⟩:=q03 HS5.out.bb2;go_wp2_with fail;refine SB.st10 HS5.out 2 rfl rfl fun WZ HZ=>q0C Tryz.results259 rfl rfl rfl HZ.bb2 ⟨HZ.bo.toBt,?_⟩;rw [← HR.out];exact ⟨⟨_,rfl,⟨33,(pa:Int),0,⟨tx.toArray⟩,⟨#[]⟩,⟨#[]⟩,none,none,none,none,0,0,0,0,0,0,0,0⟩,rfl,NdI.leaf D _ 33 (pa:Int) ⟨tx.toArray⟩ (by have:=Htx.out;show tx.length≤_;omega)⟩,HZ.px⟩
end
def opVz (r:List UInt8 × Nat × Nat × Nat):Value:= .agg #[.string ⟨r.1.toArray⟩,.int .i64 (r.2.1:Int),.int .i64 (r.2.2.1:Int),.int .i64 (r.2.2.2:Int)]
theorem opsSizeX:(Tryz.prog.info? 188).map (·.size)=some opsT.size:=by kernel_rfl
theorem opsAtX:∀ (i:Nat) r,opTz[i]? =some r→∀ u:World,(Instr.index 188 (.agg opsT) (.int .i64 (i:Int))).run Tryz.prog u= .ok (opVz r) u
 | 0,r,h,u=>by cases h;kernel_rfl
 | 1,r,h,u=>by cases h;kernel_rfl
 | 2,r,h,u=>by cases h;kernel_rfl
 | 3,r,h,u=>by cases h;kernel_rfl
 | 4,r,h,u=>by cases h;kernel_rfl
 | 5,r,h,u=>by cases h;kernel_rfl
 | 6,r,h,u=>by cases h;kernel_rfl
 | 7,r,h,u=>by cases h;kernel_rfl
 | 8,r,h,u=>by cases h;kernel_rfl
 | 9,r,h,u=>by cases h;kernel_rfl
 | 10,r,h,u=>by cases h;kernel_rfl
 | 11,r,h,u=>by cases h;kernel_rfl
 | 12,r,h,u=>by cases h;kernel_rfl
 | 13,r,h,u=>by cases h;kernel_rfl
 | 14,r,h,u=>by cases h;kernel_rfl
 | 15,r,h,u=>by cases h;kernel_rfl
 | 16,r,h,u=>by cases h;kernel_rfl
 | 17,r,h,u=>by cases h;kernel_rfl
 | 18,r,h,u=>by cases h;kernel_rfl
 | 19,r,h,u=>by cases h;kernel_rfl
 | 20,r,h,u=>by cases h;kernel_rfl
 | 21,r,h,u=>by cases h;kernel_rfl
 | 22,r,h,u=>by cases h;kernel_rfl
 | i+23,r,h,u=>by
  have:=(List.getElem?_eq_some_iff.1 h).1;have h2:opTz.length=23:=rfl;omega
theorem find_first {α:Type} (p: α→Bool):∀ (l:List α) (i:Nat) (r: α),l[i]? =some r→p r=true→(∀ (j:Nat) x,j<i→l[j]? =some x→p x=false)→l.find? p=some r
 | [],i,r,h,_,_=>by simp at h
 | x::l,0,r,h,hp,_=>by
  simp only [List.getElem?_cons_zero,Option.some.injEq] at h;subst h;rw [List.find?_cons_of_pos hp]
 | x::l,i+1,r,h,hp,hn=>by
  rw [List.find?_cons_of_neg (by rw [hn 0 x (by omega) rfl];decide)];exact find_first p l i r (by simpa using h) hp (fun j y hj hy=>hn (j+1) y (by omega) (by simpa using hy))
theorem find_miss {α:Type} (p: α→Bool) (l:List α) (hn:∀ (j:Nat) x,l[j]? =some x→p x=false):l.find? p=none:=by
 rw [List.find?_eq_none];intro x hx;obtain ⟨j,hj,e⟩:=List.mem_iff_getElem.1 hx;rw [hn j x (by rw [← e];exact List.getElem?_eq_getElem hj)];decide
section
variable {B:Nat} {so:Option Addr} {sc:Nat} {ws:List Tok} {nb:Nat} {m:Nat} {P:PM NT} {O:Nat→PM NT}
theorem opX {t o:Nat} (u:World) (hx:PX u B so sc ws nb t o):Calls Tryz.prog 224 #[.pointer (some ⟨B,0,none⟩)] u fun e w'=>e= .returned (opVz (opZ ws t))∧Below u.heap.size u w':=by
 obtain ⟨R,hR⟩:∃ R,opZ ws t=R:=⟨_,rfl⟩;rw [hR];unfold opZ at hR;dsimp only at hR;have HS0:=hQz (SB.new (Fl:=false) (tr:=[]) hx (fun b (hb:u.heap.size≤b)=>hb) (fun b hb=>by have:=hx.pat.lt;omega) (fun q hq=>by simp at hq));have HH:Hid (∀ w,PX w B so sc ws nb t o→Calls Tryz.prog 158 #[.pointer (some ⟨B,0,none⟩)] w fun e w'=>e= .returned (tokV (hrP ws t))∧Below w.heap.size w w'):=fun w hw=>hereX w hw;generalize hrP ws t=X at *;obtain ⟨kd,pa,fi,tx,er⟩:=X;unfold tokV at HH;dsimp only at HH hR;have HR:=hQz hR;clear hR hx;by_cases k10:kd=10
 · have q10:((kd:Int)==10)=true:=by rw [k10];rfl
   have hR:=HR.out;rw [if_pos (by omega)] at hR;replace HR:=hQz hR;clear hR;clear k10;go_in;go_wp2_with fail;have HS1:=hQz (HS0.out.alloc [.string ⟨#[]⟩,.int .i64 0,.int .i64 0,.int .i64 0] 177);refine (HH.out _ HS1.out.px).mono ?_;rintro e w1 ⟨rfl,hb⟩;have HB1:Hid (Below u.heap.size u w1):=(q0a u _).trans (hb.mono (by simp));have HS2:=hQz (HS1.out.keep hb);clear hb;obtain ⟨W2,hW2⟩:∃ W,w1.alloc (.cells #[.int .i64 (kd:Int),.int .i64 (pa:Int),.int .i64 (fi:Int),.string ⟨tx.toArray⟩] 82)=W:=⟨_,rfl⟩;have HS3:=hQz (HS2.out.alloc [.int .i64 (kd:Int),.int .i64 (pa:Int),.int .i64 (fi:Int),.string ⟨tx.toArray⟩] 82);rw [hW2] at HS3;have HB2:Hid (Below u.heap.size u W2):=by rw [← hW2];exact HB1.out.alloc HB1.out.size _
   obtain ⟨c0,c1,c2,c3⟩:=q08 HS3.out.bb0;obtain ⟨tG,hG⟩:=HS3.out.px.ops;have HG:=hQz hG;clear hG;go_wp2_with (refine wpList_load_row rfl 188 (Operand.global 2) rfl 2 rfl _ opsT (0,0) _ HG.out Tryz.underlying188 rfl opsSizeX ?_);clear HG c0 c1 c2 c3
   go_loopw [19] (fun b19 wr=>∃ i:Nat,i≤23∧b19= .int .i64 (i:Int)∧Hid (SB false (fun b=>u.heap.size≤b) none u B so sc ws nb t o [(w1.heap.size,[.int .i64 (kd:Int),.int .i64 (pa:Int),.int .i64 (fi:Int),.string ⟨tx.toArray⟩],82),(u.heap.size,[.string ⟨#[]⟩,.int .i64 0,.int .i64 0,.int .i64 0],177)] (.slice none 0 0) [] [] wr∧Below u.heap.size u wr)∧Hid (∀ (j:Nat) x,j<i→opTz[j]? =some x→(x.1==tx)=false)) (fun b _=>23-(intOf b).toNat)
   case atStart=>exact ⟨0,by omega,rfl,⟨HS3.out,HB2.out⟩,fun j x hj=>by omega⟩
   case round=>
    obtain ⟨i,hi,rfl,HS,HN⟩:=hrel;by_cases hlt:i<23
    · have hli:(i:Int)<23:=by omega
      obtain ⟨r,hr⟩:∃ r,opTz[i]? =some r:=⟨opTz[i]'(by show i<23;exact hlt),List.getElem?_eq_getElem _⟩;have hix:=opsAtX i r hr;have HRr:=hQz hr;clear hr;obtain ⟨tx1,op1,bi1,gr1⟩:=r;unfold opVz at hix;dsimp only at hix;obtain ⟨Wo,hWo⟩:∃ W,wr.alloc (.cells #[.string ⟨tx1.toArray⟩,.int .i64 (op1:Int),.int .i64 (bi1:Int),.int .i64 (gr1:Int)] 177)=W:=⟨_,rfl⟩
      have HSo:Hid (SB false (fun b=>u.heap.size≤b) none u B so sc ws nb t o ((wr.heap.size,[.string ⟨tx1.toArray⟩,.int .i64 (op1:Int),.int .i64 (bi1:Int),.int .i64 (gr1:Int)],177)::[(w1.heap.size,[.int .i64 (kd:Int),.int .i64 (pa:Int),.int .i64 (fi:Int),.string ⟨tx.toArray⟩],82),(u.heap.size,[.string ⟨#[]⟩,.int .i64 0,.int .i64 0,.int .i64 0],177)]) (.slice none 0 0) [] [] Wo∧Below u.heap.size u Wo):=by
       rw [← hWo];exact ⟨HS.out.1.alloc [.string ⟨tx1.toArray⟩,.int .i64 (op1:Int),.int .i64 (bi1:Int),.int .i64 (gr1:Int)] 177,HS.out.2.alloc HS.out.2.size _⟩
      obtain ⟨x0,x1,x2,x3⟩:=q08 (HSo.out.1.bxs _ (List.mem_of_getElem? (i:=0) rfl)).2.2;obtain ⟨c0,c1,c2,c3⟩:=q08 (HSo.out.1.bxs _ (List.mem_of_getElem? (i:=1) rfl)).2.2;by_cases he:tx1=tx
      · subst he;have g3:((⟨tx1.toArray⟩:ByteArray).toList==(⟨tx1.toArray⟩:ByteArray).toList)=true:=by simp
        obtain ⟨d0,d1,d2,d3⟩:=q08 (HSo.out.1.bxs _ (List.mem_of_getElem? (i:=2) rfl)).2.2;obtain ⟨f0,f1,f2,f3⟩:=q16 (HSo.out.1.bxs _ (List.mem_of_getElem? (i:=2) rfl)).2.2;go_wp2_with fail;generalize hzZ:((((Wo).setCell ⟨u.heap.size,0,none⟩ (.string ⟨tx1.toArray⟩)).setCell ⟨u.heap.size,1,none⟩ (.int .i64 (op1:Int))).setCell ⟨u.heap.size,2,none⟩ (.int .i64 (bi1:Int))).setCell ⟨u.heap.size,3,none⟩ (.int .i64 (gr1:Int))=WZ;have PZ:=q22 (HSo.out.1.bxs _ (List.mem_of_getElem? (i:=2) rfl)).2.2 hzZ;obtain ⟨m0,m1,m2,m3⟩:=q08 PZ.new;refine bodyPost_ret (v:= .agg #[.string ⟨tx1.toArray⟩,.int .i64 (op1:Int),.int .i64 (bi1:Int),.int .i64 (gr1:Int)]) (by simp [results,Tryz.results224,go_sem,m0,m1,m2,m3]) rfl ?_;refine ⟨?_,HSo.out.2.trans (PZ.below (Nat.le_refl _))⟩;rw [← HR.out,find_first (fun r=>r.1==tx1) opTz i (tx1,op1,bi1,gr1) HRr.out (by simp) (fun j x hj hx=>HN.out j x hj hx)];rfl
      · have g3:(tx1==tx)=false:=by rw [bqZ];exact he
        have g4:(tx==tx1)=false:=by rw [bqZ];exact fun e=>he e.symm
        go_wp2_with fail;go_roundw
        case rel=>
         refine ⟨i+1,by omega,by go_num,⟨HSo.out.1.unbox,HSo.out.2⟩,fun j x hj hx=> ?_⟩;by_cases e:j=i
         · subst e;have:=HRr.out;rw [hx] at this
           cases this
           exact g3
         · exact HN.out j x (by omega) hx
        case measure=>simp [intOf];omega
    · have hli:¬ (i:Int)<23:=by omega
      obtain ⟨d0,d1,d2,d3⟩:=q08 (HS.out.1.bxs _ (List.mem_of_getElem? (i:=1) rfl)).2.2;obtain ⟨f0,f1,f2,f3⟩:=q16 (HS.out.1.bxs _ (List.mem_of_getElem? (i:=1) rfl)).2.2;go_wp2_with fail;generalize hzZ:((((wr).setCell ⟨u.heap.size,0,none⟩ (.string ⟨#[]⟩)).setCell ⟨u.heap.size,1,none⟩ (.int .i64 0)).setCell ⟨u.heap.size,2,none⟩ (.int .i64 0)).setCell ⟨u.heap.size,3,none⟩ (.int .i64 0)=WZ;have PZ:=q22 (HS.out.1.bxs _ (List.mem_of_getElem? (i:=1) rfl)).2.2 hzZ;obtain ⟨m0,m1,m2,m3⟩:=q08 PZ.new;refine bodyPost_ret (v:= .agg #[.string ⟨#[]⟩,.int .i64 0,.int .i64 0,.int .i64 0]) (by simp [results,Tryz.results224,go_sem,m0,m1,m2,m3]) rfl ?_;refine ⟨?_,HS.out.2.trans (PZ.below (Nat.le_refl _))⟩;rw [← HR.out,find_miss (fun r=>r.1==tx) opTz (fun j x hx=>HN.out j x (by have:=(List.getElem?_eq_some_iff.1 hx).1;have h2:opTz.length=23:=rfl;omega) hx)];rfl
 have q10:((kd:Int)==10)=false:=by rw [bqZ];omega
 by_cases k2:kd=2
 · have q2:((kd:Int)==2)=true:=by rw [k2];rfl
   have hR:=HR.out;rw [if_pos (by omega)] at hR;replace HR:=hQz hR;clear hR;clear k2 k10;go_in;go_wp2_with fail;have HS1:=hQz (HS0.out.alloc [.string ⟨#[]⟩,.int .i64 0,.int .i64 0,.int .i64 0] 177);refine (HH.out _ HS1.out.px).mono ?_;rintro e w1 ⟨rfl,hb⟩;have HB1:Hid (Below u.heap.size u w1):=(q0a u _).trans (hb.mono (by simp));have HS2:=hQz (HS1.out.keep hb);clear hb;obtain ⟨W2,hW2⟩:∃ W,w1.alloc (.cells #[.int .i64 (kd:Int),.int .i64 (pa:Int),.int .i64 (fi:Int),.string ⟨tx.toArray⟩] 82)=W:=⟨_,rfl⟩;have HS3:=hQz (HS2.out.alloc [.int .i64 (kd:Int),.int .i64 (pa:Int),.int .i64 (fi:Int),.string ⟨tx.toArray⟩] 82);rw [hW2] at HS3;have HB2:Hid (Below u.heap.size u W2):=by rw [← hW2];exact HB1.out.alloc HB1.out.size _
   obtain ⟨c0,c1,c2,c3⟩:=q08 HS3.out.bb0;obtain ⟨tG,hG⟩:=HS3.out.px.ops;have HG:=hQz hG;clear hG;go_wp2_with (refine wpList_load_row rfl 188 (Operand.global 2) rfl 2 rfl _ opsT (0,0) _ HG.out Tryz.underlying188 rfl opsSizeX ?_);clear HG c0 c1 c2 c3
   go_loopw [19] (fun b19 wr=>∃ i:Nat,i≤23∧b19= .int .i64 (i:Int)∧Hid (SB false (fun b=>u.heap.size≤b) none u B so sc ws nb t o [(w1.heap.size,[.int .i64 (kd:Int),.int .i64 (pa:Int),.int .i64 (fi:Int),.string ⟨tx.toArray⟩],82),(u.heap.size,[.string ⟨#[]⟩,.int .i64 0,.int .i64 0,.int .i64 0],177)] (.slice none 0 0) [] [] wr∧Below u.heap.size u wr)∧Hid (∀ (j:Nat) x,j<i→opTz[j]? =some x→(x.1==tx)=false)) (fun b _=>23-(intOf b).toNat)
   case atStart=>exact ⟨0,by omega,rfl,⟨HS3.out,HB2.out⟩,fun j x hj=>by omega⟩
   case round=>
    obtain ⟨i,hi,rfl,HS,HN⟩:=hrel;by_cases hlt:i<23
    · have hli:(i:Int)<23:=by omega
      obtain ⟨r,hr⟩:∃ r,opTz[i]? =some r:=⟨opTz[i]'(by show i<23;exact hlt),List.getElem?_eq_getElem _⟩;have hix:=opsAtX i r hr;have HRr:=hQz hr;clear hr;obtain ⟨tx1,op1,bi1,gr1⟩:=r;unfold opVz at hix;dsimp only at hix;obtain ⟨Wo,hWo⟩:∃ W,wr.alloc (.cells #[.string ⟨tx1.toArray⟩,.int .i64 (op1:Int),.int .i64 (bi1:Int),.int .i64 (gr1:Int)] 177)=W:=⟨_,rfl⟩
      have HSo:Hid (SB false (fun b=>u.heap.size≤b) none u B so sc ws nb t o ((wr.heap.size,[.string ⟨tx1.toArray⟩,.int .i64 (op1:Int),.int .i64 (bi1:Int),.int .i64 (gr1:Int)],177)::[(w1.heap.size,[.int .i64 (kd:Int),.int .i64 (pa:Int),.int .i64 (fi:Int),.string ⟨tx.toArray⟩],82),(u.heap.size,[.string ⟨#[]⟩,.int .i64 0,.int .i64 0,.int .i64 0],177)]) (.slice none 0 0) [] [] Wo∧Below u.heap.size u Wo):=by
       rw [← hWo];exact ⟨HS.out.1.alloc [.string ⟨tx1.toArray⟩,.int .i64 (op1:Int),.int .i64 (bi1:Int),.int .i64 (gr1:Int)] 177,HS.out.2.alloc HS.out.2.size _⟩
      obtain ⟨x0,x1,x2,x3⟩:=q08 (HSo.out.1.bxs _ (List.mem_of_getElem? (i:=0) rfl)).2.2;obtain ⟨c0,c1,c2,c3⟩:=q08 (HSo.out.1.bxs _ (List.mem_of_getElem? (i:=1) rfl)).2.2;by_cases he:tx1=tx
      · subst he;have g3:((⟨tx1.toArray⟩:ByteArray).toList==(⟨tx1.toArray⟩:ByteArray).toList)=true:=by simp
        obtain ⟨d0,d1,d2,d3⟩:=q08 (HSo.out.1.bxs _ (List.mem_of_getElem? (i:=2) rfl)).2.2;obtain ⟨f0,f1,f2,f3⟩:=q16 (HSo.out.1.bxs _ (List.mem_of_getElem? (i:=2) rfl)).2.2;go_wp2_with fail;generalize hzZ:((((Wo).setCell ⟨u.heap.size,0,none⟩ (.string ⟨tx1.toArray⟩)).setCell ⟨u.heap.size,1,none⟩ (.int .i64 (op1:Int))).setCell ⟨u.heap.size,2,none⟩ (.int .i64 (bi1:Int))).setCell ⟨u.heap.size,3,none⟩ (.int .i64 (gr1:Int))=WZ;have PZ:=q22 (HSo.out.1.bxs _ (List.mem_of_getElem? (i:=2) rfl)).2.2 hzZ;obtain ⟨m0,m1,m2,m3⟩:=q08 PZ.new;refine bodyPost_ret (v:= .agg #[.string ⟨tx1.toArray⟩,.int .i64 (op1:Int),.int .i64 (bi1:Int),.int .i64 (gr1:Int)]) (by simp [results,Tryz.results224,go_sem,m0,m1,m2,m3]) rfl ?_;refine ⟨?_,HSo.out.2.trans (PZ.below (Nat.le_refl _))⟩;rw [← HR.out,find_first (fun r=>r.1==tx1) opTz i (tx1,op1,bi1,gr1) HRr.out (by simp) (fun j x hj hx=>HN.out j x hj hx)];rfl
      · have g3:(tx1==tx)=false:=by rw [bqZ];exact he
        have g4:(tx==tx1)=false:=by rw [bqZ];exact fun e=>he e.symm
        go_wp2_with fail;go_roundw
        case rel=>
         refine ⟨i+1,by omega,by go_num,⟨HSo.out.1.unbox,HSo.out.2⟩,fun j x hj hx=> ?_⟩;by_cases e:j=i
         · subst e;have:=HRr.out;rw [hx] at this
           cases this
           exact g3
         · exact HN.out j x (by omega) hx
        case measure=>simp [intOf];omega
    · have hli:¬ (i:Int)<23:=by omega
      obtain ⟨d0,d1,d2,d3⟩:=q08 (HS.out.1.bxs _ (List.mem_of_getElem? (i:=1) rfl)).2.2;obtain ⟨f0,f1,f2,f3⟩:=q16 (HS.out.1.bxs _ (List.mem_of_getElem? (i:=1) rfl)).2.2;go_wp2_with fail;generalize hzZ:((((wr).setCell ⟨u.heap.size,0,none⟩ (.string ⟨#[]⟩)).setCell ⟨u.heap.size,1,none⟩ (.int .i64 0)).setCell ⟨u.heap.size,2,none⟩ (.int .i64 0)).setCell ⟨u.heap.size,3,none⟩ (.int .i64 0)=WZ;have PZ:=q22 (HS.out.1.bxs _ (List.mem_of_getElem? (i:=1) rfl)).2.2 hzZ;obtain ⟨m0,m1,m2,m3⟩:=q08 PZ.new;refine bodyPost_ret (v:= .agg #[.string ⟨#[]⟩,.int .i64 0,.int .i64 0,.int .i64 0]) (by simp [results,Tryz.results224,go_sem,m0,m1,m2,m3]) rfl ?_;refine ⟨?_,HS.out.2.trans (PZ.below (Nat.le_refl _))⟩;rw [← HR.out,find_miss (fun r=>r.1==tx) opTz (fun j x hx=>HN.out j x (by have:=(List.getElem?_eq_some_iff.1 hx).1;have h2:opTz.length=23:=rfl;omega) hx)];rfl
 have q2:((kd:Int)==2)=false:=by rw [bqZ];omega
 have hR:=HR.out;rw [if_neg (by omega)] at hR;replace HR:=hQz hR;clear hR;clear k10 k2;go_in;go_wp2_with fail;have HS1:=hQz (HS0.out.alloc [.string ⟨#[]⟩,.int .i64 0,.int .i64 0,.int .i64 0] 177);refine (HH.out _ HS1.out.px).mono ?_;rintro e w1 ⟨rfl,hb⟩;have HB1:Hid (Below u.heap.size u w1):=(q0a u _).trans (hb.mono (by simp));have HS2:=hQz (HS1.out.keep hb);clear hb;obtain ⟨W2,hW2⟩:∃ W,w1.alloc (.cells #[.int .i64 (kd:Int),.int .i64 (pa:Int),.int .i64 (fi:Int),.string ⟨tx.toArray⟩] 82)=W:=⟨_,rfl⟩;have HS3:=hQz (HS2.out.alloc [.int .i64 (kd:Int),.int .i64 (pa:Int),.int .i64 (fi:Int),.string ⟨tx.toArray⟩] 82);rw [hW2] at HS3;have HB2:Hid (Below u.heap.size u W2):=by rw [← hW2];exact HB1.out.alloc HB1.out.size _
 obtain ⟨c0,c1,c2,c3⟩:=q08 HS3.out.bb0;obtain ⟨r0,r1,r2,r3⟩:=q08 HS3.out.bb1;obtain ⟨rf0,rf1,rf2,rf3⟩:=q16 HS3.out.bb1;go_wp2_with fail;generalize hzZ:((((W2).setCell ⟨u.heap.size,0,none⟩ (.string ⟨#[]⟩)).setCell ⟨u.heap.size,1,none⟩ (.int .i64 0)).setCell ⟨u.heap.size,2,none⟩ (.int .i64 0)).setCell ⟨u.heap.size,3,none⟩ (.int .i64 0)=WZ;have PZ:=q22 HS3.out.bb1 hzZ;obtain ⟨m0,m1,m2,m3⟩:=q08 PZ.new;refine bodyPost_ret (v:= .agg #[.string ⟨#[]⟩,.int .i64 0,.int .i64 0,.int .i64 0]) (by simp [results,Tryz.results224,go_sem,m0,m1,m2,m3]) rfl ?_;exact ⟨by rw [← HR.out];rfl,HB2.out.trans (PZ.below (Nat.le_refl _))⟩
theorem mostX (r:List UInt8 × Nat × Nat × Nat) (h1:1≤r.2.2.1) (h2:r.2.2.1≤8) (u:World):Calls Tryz.prog 226 #[opVz r] u fun e w'=>e= .returned (.int .i64 ((if r.2.2.2=2 then r.2.2.1-1 else r.2.2.1:Nat):Int))∧Below u.heap.size u w':=by
 obtain ⟨tx1,op1,bi1,gr1⟩:=r;unfold opVz;dsimp only at h1 h2 ⊢;have hb1:(1:Int)≤(bi1:Int):=by omega
 have hb2:(bi1:Int)≤8:=by omega
 by_cases hg:gr1=2
 · rw [if_pos hg,show ((bi1-1:Nat):Int)=(bi1:Int)-1 by omega];have q:((gr1:Int)==2)=true:=by rw [hg];rfl
   clear hg;go_in;go_wp2_with fail;go_ret;exact ⟨rfl,q0a u _⟩
 · rw [if_neg hg];have q:((gr1:Int)==2)=false:=by rw [bqZ];omega
   clear hg;go_in;go_wp2_with fail;go_ret;exact ⟨rfl,q0a u _⟩
end
structure Wt1 (w:World) (gw g:Nat) (a:Int) (d1:ND):Prop where
 wl:gw<w.heap.size
 cells:w.cell? ⟨gw,0,none⟩=some (.int .i64 12)∧w.cell? ⟨gw,1,none⟩=some (.int .i64 a)∧w.cell? ⟨gw,2,none⟩=some (.string ⟨#[]⟩)∧w.cell? ⟨gw,3,none⟩=some (.int .i64 0)∧w.cell? ⟨gw,4,none⟩=some (.string ⟨#[]⟩)∧w.cell? ⟨gw,5,none⟩=some (.string ⟨#[]⟩)∧w.cell? ⟨gw,6,none⟩=some (.slice none 0 0)∧w.cell? ⟨gw,7,none⟩=some (.slice none 0 0)∧w.cell? ⟨gw,8,none⟩=some (.slice none 0 0)∧w.cell? ⟨gw,9,none⟩=some (.slice (some ⟨g,0,none⟩) 1 1)
 kid:w.heap[g]? =some (.cells d1.c 28 (0,0))
theorem Wt1.keep {w w':World} {gw g:Nat} {a:Int} {d1:ND} (h:Wt1 w gw g a d1) (hb:Below w.heap.size w w'):Wt1 w' gw g a d1:=by
 obtain ⟨h1,⟨c0,c1,c2,c3,c4,c5,c6,c7,c8,c9⟩,h3⟩:=h;have cc:∀ o u,w.cell? ⟨gw,o,none⟩=some u→w'.cell? ⟨gw,o,none⟩=some u:=fun o u h3=>(World.cell?_of_block (a:=⟨gw,o,none⟩) (hb.block _ h1)).trans h3;exact ⟨Nat.lt_of_lt_of_le h1 hb.size,⟨cc _ _ c0,cc _ _ c1,cc _ _ c2,cc _ _ c3,cc _ _ c4,cc _ _ c5,cc _ _ c6,cc _ _ c7,cc _ _ c8,cc _ _ c9⟩,(hb.block g (Array.getElem?_eq_some_iff.1 h3).1).trans h3⟩
end Go.Proofs.YtdjleoglphgdgaaGreatDoor
