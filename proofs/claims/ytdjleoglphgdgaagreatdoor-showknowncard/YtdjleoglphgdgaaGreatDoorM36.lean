import Derived.Test.YtdjleoglphgdgaaGreatDoorM30
import Derived.Test.YtdjleoglphgdgaaGreatDoorM31
import Derived.ArgAppend
import Derived.Maps.AppendAt
import Derived.LoopN
set_option linter.unusedVariables false
set_option linter.unusedSimpArgs false
namespace Go.Proofs.YtdjleoglphgdgaaGreatDoor
open Go.RowKit Go.Shelf
set_option maxRecDepth 100000
set_option maxHeartbeats 12800000
structure NV where
 op:Int
 at_:Int
 vk:Int
 tx:ByteArray
 nu:ByteArray
 vt:ByteArray
 io:Option Addr
 yo:Option Addr
 no:Option Addr
 ko:Option Addr
 iN:Nat
 ic:Nat
 yN:Nat
 yc:Nat
 nN:Nat
 nc:Nat
 kN:Nat
 kc:Nat
def NV.l (d:NV):List Value:=[.int .i64 d.op,.int .i64 d.at_,.string d.tx,.int .i64 d.vk,.string d.nu,.string d.vt,.slice d.io d.iN d.ic,.slice d.yo d.yN d.yc,.slice d.no d.nN d.nc,.slice d.ko d.kN d.kc]
def NV.v (d:NV):Value:= .agg d.l.toArray
def nv0:NV:=⟨0,0,0,⟨#[]⟩,⟨#[]⟩,⟨#[]⟩,none,none,none,none,0,0,0,0,0,0,0,0⟩
def NdI (D:Nat→Prop) (W:World) (T:NT) (d:NV):Prop:=∃ h,InN D W h T d.v
theorem NdI.keep {D D':Nat→Prop} {W W':World} {T:NT} {d:NV} (h:NdI D W T d) (hz:W.heap.size≤W'.heap.size) (hs:∀ b,D b→b<W.heap.size→W'.heap[b]? =W.heap[b]?) (hlo:∀ b,D b→b<W.heap.size→D' b):NdI D' W' T d:=by
 obtain ⟨k,h⟩:=h;exact ⟨k,h.keep hz hs hlo⟩
theorem NdI.weak {D D':Nat→Prop} {W:World} {T:NT} {d:NV} (h:NdI D W T d) (hlo:∀ b,D b→b<W.heap.size→D' b):NdI D' W T d:=h.keep (Nat.le_refl _) (fun _ _ _=>rfl) hlo
theorem NdI.eqs {D:Nat→Prop} {W:World} {T:NT} {d:NV} (h:NdI D W T d):d.op=T.op∧d.at_=T.at_∧d.tx=T.text∧d.vk=T.value.kind∧d.kN=T.kids.length∧d.nN=T.names.length∧d.kN≤d.kc∧d.kN≤140737488355328:=by
 obtain ⟨k,h⟩:=h
 cases k with
 | zero=>exact h.elim
 | succ k=>
  obtain ⟨io,icap,yo,ycap,no,nc,ko,kc,e,_,_,_,⟨h1,h2⟩,_⟩:=h;unfold NV.v NV.l at e;simp only [Value.agg.injEq,List.cons.injEq,Array.mk.injEq,Value.int.injEq,Value.string.injEq,Value.slice.injEq,true_and,and_true] at e;obtain ⟨e0,e1,e2,e3,e4,e5,⟨e6,e6b,e6c⟩,⟨e7,e7b,e7c⟩,⟨e8,e8b,e8c⟩,⟨e9,e9b,e9c⟩⟩:=e;exact ⟨e0,e1,e2,e3,e9b,e8b,by omega,by omega⟩
structure NRw (D:Nat→Prop) (W:World) (v:Value) (Ts:List NT) (ds:List NV):Prop where
 own:W.ownsRow 0 28 10 v Ts.length (ds.flatMap NV.l)
 len:ds.length=Ts.length
 els:∀ (i:Nat) T d,Ts[i]? =some T→ds[i]? =some d→NdI D W T d
theorem NRw.nil (D:Nat→Prop) (W:World):NRw D W (.slice none 0 0) [] []:=⟨⟨rfl,.inl ⟨rfl,rfl⟩⟩,rfl,fun i T d h=>by simp at h⟩
structure Bo (B:Nat) (r0:Option Nat) (w w':World):Prop where
 os:w'.os=w.os
 tape:w'.tape=w.tape
 output:w'.output=w.output
 size:w.heap.size≤w'.heap.size
 block:∀ k,k<w.heap.size→k≠B→r0≠some k→w'.heap[k]? =w.heap[k]?
theorem Bo.refl (B:Nat) (r0:Option Nat) (w:World):Bo B r0 w w:=⟨rfl,rfl,rfl,Nat.le_refl _,fun _ _ _ _=>rfl⟩
theorem Bo.trans {B:Nat} {r0:Option Nat} {a b c:World} (h:Bo B r0 a b) (k:Bo B r0 b c):Bo B r0 a c:=
 ⟨k.os.trans h.os,k.tape.trans h.tape,k.output.trans h.output,Nat.le_trans h.size k.size,fun i hi h1 h2=>(k.block i (Nat.lt_of_lt_of_le hi h.size) h1 h2).trans (h.block i hi h1 h2)⟩
theorem Bo.ofBt {B:Nat} {r0:Option Nat} {w w':World} (h:Bt B w w'):Bo B r0 w w':=⟨h.os,h.tape,h.output,h.size,fun k hk h1 _=>h.block k hk h1⟩
theorem Bo.toBt {B:Nat} {w w':World} (h:Bo B none w w'):Bt B w w':=⟨h.os,h.tape,h.output,h.size,fun k hk h1=>h.block k hk h1 (fun e=>by cases e)⟩
def opsT:Array Value:=(opTz.flatMap fun r=>[.string ⟨r.1.toArray⟩,.int .i64 (r.2.1:Int),.int .i64 (r.2.2.1:Int),.int .i64 (r.2.2.2:Int)]).toArray
structure PX (W:World) (B:Nat) (so:Option Addr) (sc:Nat) (ws:List Tok) (nb t o:Nat):Prop where
 pat:PAt W B so sc ws nb t o
 ops:∃ ty,W.heap[(2:Nat)]? =some (.cells opsT ty (0,0))
 ne:B≠2
theorem PX.keep {W W':World} {B:Nat} {so:Option Addr} {sc:Nat} {ws:List Tok} {nb t o:Nat} (h:PX W B so sc ws nb t o) (hb:Below W.heap.size W W'):PX W' B so sc ws nb t o:=by
 obtain ⟨ty,ho⟩:=h.ops;exact ⟨h.pat.keep hb,⟨ty,(hb.block _ (Array.getElem?_eq_some_iff.1 ho).1).trans ho⟩,h.ne⟩
theorem PX.bt {W W':World} {B:Nat} {so:Option Addr} {sc:Nat} {ws:List Tok} {nb t o t' o':Nat} (h:PX W B so sc ws nb t o) (hb:Bt B W W') (hp:PAt W' B so sc ws nb t' o'):PX W' B so sc ws nb t' o':=by
 obtain ⟨ty,ho⟩:=h.ops;exact ⟨hp,⟨ty,(hb.block _ (Array.getElem?_eq_some_iff.1 ho).1 (fun e=>h.ne e.symm)).trans ho⟩,h.ne⟩
theorem PX.of0 {w W':World} {B:Nat} {r0:Option Nat} {so:Option Addr} {sc:Nat} {ws:List Tok} {nb t o t0 o0:Nat} (h:PX w B so sc ws nb t0 o0) (hb:Bo B r0 w W') (hr:∀ g,r0=some g→g≠B∧g≠2∧∀ off,0<ws.length→so≠some ⟨g,off,none⟩)
 (hx:W'.heap[B]? =some (.cells #[.slice so ws.length sc,.int .i64 (t:Int),.int .i64 (nb:Int),.int .i64 (o:Int)] 66 (0,0))) (ht:t≤ws.length) (ho:o≤64):PX W' B so sc ws nb t o:=by
 obtain ⟨ty,hop⟩:=h.ops;refine ⟨⟨hx,fun i hi=> ?_,h.pat.cap,h.pat.apart,h.pat.few,ht,ho⟩,⟨ty,(hb.block _ (Array.getElem?_eq_some_iff.1 hop).1 (fun e=>h.ne e.symm) (fun e=>(hr _ e).2.1 rfl)).trans hop⟩,h.ne⟩;obtain ⟨g,off,e,hl,c0,c1,c2,c3⟩:=h.pat.row i hi;have hg:=hb.block g hl (h.pat.apart g off e) (fun e2=>(hr g e2).2.2 off (by omega) e);have cc:∀ o u,w.cell? ⟨g,o,none⟩=some u→W'.cell? ⟨g,o,none⟩=some u:=fun o u h3=>(World.cell?_of_block (a:=⟨g,o,none⟩) hg).trans h3;exact ⟨g,off,e,Nat.lt_of_lt_of_le hl hb.size,cc _ _ c0,cc _ _ c1,cc _ _ c2,cc _ _ c3⟩
def FullRow (W:World) (rv:Value) (n:Nat):Prop:=∀ g,rv.ownBlock=some g→∀ i,i<n→∃ ko k,k≤1000∧W.cell? ⟨g,i*10+9,none⟩=some (.slice ko k k)
theorem FullRow.keep {W W':World} {rv:Value} {n:Nat} (h:FullRow W rv n) (hb:∀ g,rv.ownBlock=some g→W'.heap[g]? =W.heap[g]?):FullRow W' rv n:=fun g hg i hi=>by
 obtain ⟨ko,k,h1,h2⟩:=h g hg i hi;exact ⟨ko,k,h1,(World.cell?_of_block (a:=⟨g,i*10+9,none⟩) (hb g hg)).trans h2⟩
def Dm (D:Nat→Prop) (bx:List (Nat × List Value × TypeId)) (rv:Value) (b:Nat):Prop:=D b∧(∀ p∈bx,b≠p.1)∧rv.ownBlock≠some b
structure SB (Fl:Bool) (D:Nat→Prop) (r0:Option Nat) (w:World) (B:Nat) (so:Option Addr) (sc:Nat) (ws:List Tok) (nb t o:Nat) (bx:List (Nat × List Value × TypeId)) (rv:Value) (Ts:List NT) (tr:List (NT × NV)) (W:World):Prop where
 bo:Bo B r0 w W
 px:PX W B so sc ws nb t o
 bxs:∀ p∈bx,w.heap.size≤p.1∧p.1<W.heap.size∧W.heap[p.1]? =some (.cells p.2.1.toArray p.2.2 (0,0))
 apart:bx.Pairwise (fun p q=>p.1≠q.1)
 row:∃ ds,NRw (Dm D bx rv) W rv Ts ds
 rok:∀ g,rv.ownBlock=some g→(w.heap.size≤g∨r0=some g)∧g≠B∧g<W.heap.size∧∀ p∈bx,g≠p.1
 r0k:∀ g,r0=some g→g≠B∧g≠2∧∀ off,0<ws.length→so≠some ⟨g,off,none⟩
 trs:∀ q∈tr,NdI (Dm D bx rv) W q.1 q.2
 dn:∀ b,w.heap.size≤b→D b
 db:∀ b,D b→b≠B
 hB:B<w.heap.size
 p0:∃ t0 o0,PX w B so sc ws nb t0 o0
 fu:Fl=true→FullRow W rv Ts.length
section
variable {Fl:Bool} {D:Nat→Prop} {r0:Option Nat} {w W W':World} {B:Nat} {so:Option Addr} {sc:Nat} {ws:List Tok} {nb t o:Nat} {bx:List (Nat × List Value × TypeId)} {rv:Value} {Ts:List NT} {tr:List (NT × NV)}
theorem SB.new (h:PX w B so sc ws nb t o) (dn:∀ b,w.heap.size≤b→D b) (db:∀ b,D b→b≠B) (ht:∀ q∈tr,NdI D w q.1 q.2):SB Fl D none w B so sc ws nb t o [] (.slice none 0 0) [] tr w:=
 ⟨Bo.refl _ _ _,h,(fun p hp=>by simp at hp),List.Pairwise.nil,⟨[],NRw.nil _ _⟩,(fun g hg=>by cases hg),(fun g hg=>by cases hg),(fun q hq=>(ht q hq).weak (fun b hb _=>⟨hb,fun p hp=>(by simp at hp),fun e=>by cases e⟩)),dn,db,h.pat.lt,⟨t,o,h⟩,fun _ g hg=>by cases hg⟩
theorem SB.sz (h:SB Fl D r0 w B so sc ws nb t o bx rv Ts tr W):w.heap.size≤W.heap.size:=h.bo.size
theorem SB.dnW (h:SB Fl D r0 w B so sc ws nb t o bx rv Ts tr W):∀ b,W.heap.size≤b→Dm D bx rv b:=fun b hb=>
 ⟨h.dn b (Nat.le_trans h.sz hb),fun p hp e=>by have:=(h.bxs p hp).2.1;omega,fun e=>by have:=(h.rok b e).2.2.1;omega⟩
theorem SB.dbW (h:SB Fl D r0 w B so sc ws nb t o bx rv Ts tr W):∀ b,Dm D bx rv b→b≠B:=fun b hb=>h.db b hb.1
theorem NRw.keep {D D':Nat→Prop} {v:Value} {ds:List NV} (h:NRw D W v Ts ds) (hz:W.heap.size≤W'.heap.size) (hs:∀ b,D b→b<W.heap.size→W'.heap[b]? =W.heap[b]?) (hlo:∀ b,D b→b<W.heap.size→D' b) (hr:∀ g,v.ownBlock=some g→W'.heap[g]? =W.heap[g]?):NRw D' W' v Ts ds:=by
 refine ⟨⟨h.own.1,?_⟩,h.len,fun i T d h1 h2=>(h.els i T d h1 h2).keep hz hs hlo⟩;rcases h.own.2 with h0|⟨g,cap,cur,e,h1,h2,h3⟩
 · exact .inl h0
 · exact .inr ⟨g,cap,cur,e,h1,(hr g (by rw [e];rfl)).trans h2,h3⟩
theorem SB.keep (h:SB Fl D r0 w B so sc ws nb t o bx rv Ts tr W) (hb:Below W.heap.size W W'):SB Fl D r0 w B so sc ws nb t o bx rv Ts tr W':=by
 have hs:∀ b,Dm D bx rv b→b<W.heap.size→W'.heap[b]? =W.heap[b]? :=fun b _ hl=>hb.block b hl;obtain ⟨ds,hr⟩:=h.row
 exact ⟨h.bo.trans ⟨hb.os,hb.tape,hb.output,hb.size,fun k hk _ _=>hb.block k hk⟩,h.px.keep hb,fun p hp=>⟨(h.bxs p hp).1,Nat.lt_of_lt_of_le (h.bxs p hp).2.1 hb.size,(hb.block _ (h.bxs p hp).2.1).trans (h.bxs p hp).2.2⟩,h.apart,
  ⟨ds,hr.keep hb.size hs (fun b hb _=>hb) (fun g hg=>hb.block g (h.rok g hg).2.2.1)⟩,fun g hg=>⟨(h.rok g hg).1,(h.rok g hg).2.1,Nat.lt_of_lt_of_le (h.rok g hg).2.2.1 hb.size,(h.rok g hg).2.2.2⟩,h.r0k,fun q hq=>(h.trs q hq).keep hb.size hs (fun b hb _=>hb),h.dn,h.db,h.hB,h.p0,fun e=>(h.fu e).keep (fun g hg=>hb.block g (h.rok g hg).2.2.1)⟩
theorem SB.step {t' o':Nat} (h:SB Fl D r0 w B so sc ws nb t o bx rv Ts tr W) (hb:Bt B W W') (hp:PX W' B so sc ws nb t' o'):SB Fl D r0 w B so sc ws nb t' o' bx rv Ts tr W':=by
 have hB:=h.hB;have hs:∀ b,Dm D bx rv b→b<W.heap.size→W'.heap[b]? =W.heap[b]? :=fun b hd hl=>hb.block b hl (h.db b hd.1);obtain ⟨ds,hr⟩:=h.row
 exact ⟨h.bo.trans (Bo.ofBt hb),hp,fun p hp=>⟨(h.bxs p hp).1,Nat.lt_of_lt_of_le (h.bxs p hp).2.1 hb.size,(hb.block _ (h.bxs p hp).2.1 (by have:=(h.bxs p hp).1;omega)).trans (h.bxs p hp).2.2⟩,h.apart,
  ⟨ds,hr.keep hb.size hs (fun b hb _=>hb) (fun g hg=>hb.block g (h.rok g hg).2.2.1 (h.rok g hg).2.1)⟩,fun g hg=>⟨(h.rok g hg).1,(h.rok g hg).2.1,Nat.lt_of_lt_of_le (h.rok g hg).2.2.1 hb.size,(h.rok g hg).2.2.2⟩,h.r0k,fun q hq=>(h.trs q hq).keep hb.size hs (fun b hb _=>hb),h.dn,h.db,hB,h.p0,fun e=>(h.fu e).keep (fun g hg=>hb.block g (h.rok g hg).2.2.1 (h.rok g hg).2.1)⟩
theorem SB.add (h:SB Fl D r0 w B so sc ws nb t o bx rv Ts tr W) {T:NT} {d:NV} (ht:NdI (Dm D bx rv) W T d):SB Fl D r0 w B so sc ws nb t o bx rv Ts ((T,d)::tr) W:=
 ⟨h.bo,h.px,h.bxs,h.apart,h.row,h.rok,h.r0k,fun q hq=>by
  rcases List.mem_cons.1 hq with rfl|hq
  · exact ht
  · exact h.trs q hq,h.dn,h.db,h.hB,h.p0,h.fu⟩
theorem SB.drop {x:NT × NV} (h:SB Fl D r0 w B so sc ws nb t o bx rv Ts (x::tr) W):SB Fl D r0 w B so sc ws nb t o bx rv Ts tr W:=
 ⟨h.bo,h.px,h.bxs,h.apart,h.row,h.rok,h.r0k,fun q hq=>h.trs q (List.mem_cons_of_mem _ hq),h.dn,h.db,h.hB,h.p0,h.fu⟩
theorem SB.trees (tr':List (NT × NV)) (h:SB Fl D r0 w B so sc ws nb t o bx rv Ts tr W) (hs:∀ q∈tr',q∈tr):SB Fl D r0 w B so sc ws nb t o bx rv Ts tr' W:=
 ⟨h.bo,h.px,h.bxs,h.apart,h.row,h.rok,h.r0k,fun q hq=>h.trs q (hs q hq),h.dn,h.db,h.hB,h.p0,h.fu⟩
theorem SB.alloc (h:SB Fl D r0 w B so sc ws nb t o bx rv Ts tr W) (l:List Value) (ty:TypeId):SB Fl D r0 w B so sc ws nb t o ((W.heap.size,l,ty)::bx) rv Ts tr (W.alloc (.cells l.toArray ty)):=by
 have hk:=h.keep ((Below.refl _ _).alloc (Nat.le_refl _) (.cells l.toArray ty))
 have hlo:∀ b,Dm D bx rv b→b<W.heap.size→Dm D ((W.heap.size,l,ty)::bx) rv b:=fun b hd hl=>⟨hd.1,fun p hp=>by
  rcases List.mem_cons.1 hp with rfl|hp
  · show b≠W.heap.size;omega
  · exact hd.2.1 p hp,hd.2.2⟩
 have hs:∀ b,Dm D bx rv b→b<W.heap.size→(W.alloc (.cells l.toArray ty)).heap[b]? =W.heap[b]? :=fun b _ hl=>Below.heap_alloc _ _ _ hl;obtain ⟨ds,hr⟩:=h.row;refine ⟨hk.bo,hk.px,fun p hp=> ?_,?_,⟨ds,hr.keep (by simp) hs hlo (fun g hg=>Below.heap_alloc _ _ _ (h.rok g hg).2.2.1)⟩,fun g hg=>⟨(h.rok g hg).1,(h.rok g hg).2.1,(hk.rok g hg).2.2.1,fun p hp=> ?_⟩,h.r0k,fun q hq=>(h.trs q hq).keep (by simp) hs hlo,h.dn,h.db,h.hB,h.p0,hk.fu⟩
 · rcases List.mem_cons.1 hp with rfl|hp
   · exact ⟨h.sz,by simp,heap_alloc_new W _⟩
   · exact hk.bxs p hp
 · refine List.Pairwise.cons (fun p hp=> ?_) h.apart;have:=(h.bxs p hp).2.1;show W.heap.size≠p.1;omega
 · rcases List.mem_cons.1 hp with rfl|hp
   · show g≠W.heap.size;have:=(h.rok g hg).2.2.1;omega
   · exact (h.rok g hg).2.2.2 p hp
theorem SB.al0 (h:SB Fl D r0 w B so sc ws nb t o bx rv Ts tr W):SB Fl D r0 w B so sc ws nb t o ((W.heap.size,[.int .i64 0,.int .i64 0,.string ⟨#[]⟩,.int .i64 0,.string ⟨#[]⟩,.string ⟨#[]⟩,.slice none 0 0,.slice none 0 0,.slice none 0 0,.slice none 0 0],28)::bx) rv Ts tr (W.alloc (.cells #[.int .i64 0,.int .i64 0,.string ⟨#[]⟩,.int .i64 0,.string ⟨#[]⟩,.string ⟨#[]⟩,.slice none 0 0,.slice none 0 0,.slice none 0 0,.slice none 0 0] 28)):=h.alloc [.int .i64 0,.int .i64 0,.string ⟨#[]⟩,.int .i64 0,.string ⟨#[]⟩,.string ⟨#[]⟩,.slice none 0 0,.slice none 0 0,.slice none 0 0,.slice none 0 0] 28
theorem SB.drew (h:SB Fl D r0 w B so sc ws nb t o bx rv Ts tr W):SB Fl D r0 w B so sc ws nb t o bx rv Ts tr W.drew:=h.keep (Below.refl _ _).drew
theorem SB.unbox {x:Nat × List Value × TypeId} (h:SB Fl D r0 w B so sc ws nb t o (x::bx) rv Ts tr W):SB Fl D r0 w B so sc ws nb t o bx rv Ts tr W:=by
 have hlo:∀ b,Dm D (x::bx) rv b→b<W.heap.size→Dm D bx rv b:=fun b hd _=>⟨hd.1,fun p hp=>hd.2.1 p (List.mem_cons_of_mem _ hp),hd.2.2⟩;obtain ⟨ds,hr⟩:=h.row;exact ⟨h.bo,h.px,fun p hp=>h.bxs p (List.mem_cons_of_mem _ hp),(List.pairwise_cons.1 h.apart).2,⟨ds,hr.keep (Nat.le_refl _) (fun _ _ _=>rfl) hlo (fun _ _=>rfl)⟩,fun g hg=>⟨(h.rok g hg).1,(h.rok g hg).2.1,(h.rok g hg).2.2.1,fun p hp=>(h.rok g hg).2.2.2 p (List.mem_cons_of_mem _ hp)⟩,h.r0k,fun q hq=>(h.trs q hq).weak hlo,h.dn,h.db,h.hB,h.p0,h.fu⟩
theorem SB.bb0 {x0:Nat × List Value × TypeId} (h:SB Fl D r0 w B so sc ws nb t o (x0::bx) rv Ts tr W):W.heap[x0.1]? =some (.cells x0.2.1.toArray x0.2.2 (0,0)):=(h.bxs _ (List.mem_of_getElem? (i:=0) rfl)).2.2
theorem SB.bb1 {x0 x1:Nat × List Value × TypeId} (h:SB Fl D r0 w B so sc ws nb t o (x0::x1::bx) rv Ts tr W):W.heap[x1.1]? =some (.cells x1.2.1.toArray x1.2.2 (0,0)):=(h.bxs _ (List.mem_of_getElem? (i:=1) rfl)).2.2
theorem SB.bb2 {x0 x1 x2:Nat × List Value × TypeId} (h:SB Fl D r0 w B so sc ws nb t o (x0::x1::x2::bx) rv Ts tr W):W.heap[x2.1]? =some (.cells x2.2.1.toArray x2.2.2 (0,0)):=(h.bxs _ (List.mem_of_getElem? (i:=2) rfl)).2.2
theorem SB.bb3 {x0 x1 x2 x3:Nat × List Value × TypeId} (h:SB Fl D r0 w B so sc ws nb t o (x0::x1::x2::x3::bx) rv Ts tr W):W.heap[x3.1]? =some (.cells x3.2.1.toArray x3.2.2 (0,0)):=(h.bxs _ (List.mem_of_getElem? (i:=3) rfl)).2.2
theorem SB.bb4 {x0 x1 x2 x3 x4:Nat × List Value × TypeId} (h:SB Fl D r0 w B so sc ws nb t o (x0::x1::x2::x3::x4::bx) rv Ts tr W):W.heap[x4.1]? =some (.cells x4.2.1.toArray x4.2.2 (0,0)):=(h.bxs _ (List.mem_of_getElem? (i:=4) rfl)).2.2
theorem SB.bb5 {x0 x1 x2 x3 x4 x5:Nat × List Value × TypeId} (h:SB Fl D r0 w B so sc ws nb t o (x0::x1::x2::x3::x4::x5::bx) rv Ts tr W):W.heap[x5.1]? =some (.cells x5.2.1.toArray x5.2.2 (0,0)):=(h.bxs _ (List.mem_of_getElem? (i:=5) rfl)).2.2
theorem SB.bb6 {x0 x1 x2 x3 x4 x5 x6:Nat × List Value × TypeId} (h:SB Fl D r0 w B so sc ws nb t o (x0::x1::x2::x3::x4::x5::x6::bx) rv Ts tr W):W.heap[x6.1]? =some (.cells x6.2.1.toArray x6.2.2 (0,0)):=(h.bxs _ (List.mem_of_getElem? (i:=6) rfl)).2.2
theorem set_mem {α:Type} {l:List α} {i:Nat} {x p: α} (h:p∈l.set i x):p=x∨∃ j,j≠i∧l[j]? =some p:=by
 obtain ⟨j,hj,e⟩:=List.mem_iff_getElem.1 h;rw [List.getElem_set] at e
 split at e
 · exact .inl e.symm
 · rename_i hne
   exact .inr ⟨j,fun e=>hne e.symm,by rw [← e];exact List.getElem?_eq_getElem _⟩
theorem SB.put (h:SB Fl D r0 w B so sc ws nb t o bx rv Ts tr W) (i g:Nat) (l l':List Value) (ty:TypeId) (hi:bx[i]? =some (g,l,ty)) (hp:Put g (.cells l'.toArray ty (0,0)) W W'):SB Fl D r0 w B so sc ws nb t o (bx.set i (g,l',ty)) rv Ts tr W':=by
 have hm:(g,l,ty)∈bx:=List.mem_of_getElem? hi;obtain ⟨g1,g2,g3⟩:=h.bxs _ hm;have hB:=h.hB;have hgB:g≠B:=by intro e;subst e;exact absurd g1 (by show ¬ (w.heap.size≤g);omega)
 have hpart:∀ p∈bx.set i (g,l',ty),p=(g,l',ty)∨(p∈bx∧p.1≠g):=fun p hp=>by
  rcases set_mem hp with rfl|⟨j,hj,e⟩
  · exact .inl rfl
  · refine .inr ⟨List.mem_of_getElem? e,?_⟩;obtain ⟨hjl,ej⟩:=List.getElem?_eq_some_iff.1 e;obtain ⟨hil,ei⟩:=List.getElem?_eq_some_iff.1 hi;have hpw:=List.pairwise_iff_getElem.1 h.apart;rcases Nat.lt_or_gt_of_ne hj with hlt|hgt
    · have:=hpw j i hjl hil hlt;rw [ej,ei] at this;exact this
    · have:=hpw i j hil hjl hgt;rw [ej,ei] at this;exact fun e=>this e.symm
 have hfst:(bx.set i (g,l',ty)).map (·.1)=bx.map (·.1):=by
  rw [List.map_set];apply List.ext_getElem?;intro j;rw [List.getElem?_set]
  split
  · rename_i e
    subst e
    split
    · rw [List.getElem?_map,hi];rfl
    · rename_i hn
      exfalso;have:=(List.getElem?_eq_some_iff.1 hi).1;rw [List.length_map] at hn;omega
  · rfl
 have hmem:∀ b:Nat,(∀ p∈bx,b≠p.1)→∀ p∈bx.set i (g,l',ty),b≠p.1:=fun b hb p hp=>by
  rcases hpart p hp with rfl|⟨h1,_⟩
  · exact hb (g,l,ty) hm
  · exact hb p h1
 have hs:∀ b,Dm D bx rv b→b<W.heap.size→W'.heap[b]? =W.heap[b]? :=fun b hd _=>hp.rest b (hd.2.1 _ hm);have hlo:∀ b,Dm D bx rv b→b<W.heap.size→Dm D (bx.set i (g,l',ty)) rv b:=fun b hd _=>⟨hd.1,hmem b hd.2.1,hd.2.2⟩;have hrg:∀ k,rv.ownBlock=some k→W'.heap[k]? =W.heap[k]? :=fun k hk=>hp.rest k ((h.rok k hk).2.2.2 _ hm);have hsz:W.heap.size≤W'.heap.size:=by rw [hp.size];exact Nat.le_refl _
 obtain ⟨ds,hr⟩:=h.row;have hbo:Bo B r0 w W':=⟨hp.os.trans h.bo.os,hp.tape.trans h.bo.tape,hp.output.trans h.bo.output,Nat.le_trans h.bo.size hsz,fun k hk h1 h2=>(hp.rest k (by have:w.heap.size≤g:=g1;omega)).trans (h.bo.block k hk h1 h2)⟩;refine ⟨hbo,?_,fun p hq=> ?_,?_,⟨ds,hr.keep hsz hs hlo hrg⟩,fun k hk=>⟨(h.rok k hk).1,(h.rok k hk).2.1,Nat.lt_of_lt_of_le (h.rok k hk).2.2.1 hsz,fun p hq=> ?_⟩,h.r0k,fun q hq=>(h.trs q hq).keep hsz hs hlo,h.dn,h.db,hB,h.p0,fun e=>(h.fu e).keep hrg⟩
 · obtain ⟨t0,o0,h0⟩:=h.p0;exact PX.of0 h0 hbo h.r0k ((hp.rest B (fun e=>hgB e.symm)).trans h.px.pat.box) h.px.pat.le h.px.pat.open_
 · rcases hpart p hq with rfl|⟨h1,h2⟩
   · exact ⟨g1,Nat.lt_of_lt_of_le g2 hsz,hp.new⟩
   · obtain ⟨k1,k2,k3⟩:=h.bxs p h1;exact ⟨k1,Nat.lt_of_lt_of_le k2 hsz,(hp.rest p.1 h2).trans k3⟩
 · have:(bx.map (·.1)).Pairwise (· ≠ ·):=List.pairwise_map.2 h.apart;rw [← hfst] at this;exact List.pairwise_map.1 this
 · exact hmem k (h.rok k hk).2.2.2 p hq
end
end Go.Proofs.YtdjleoglphgdgaaGreatDoor
namespace Go.Proofs.YtdjleoglphgdgaaGreatDoor
open Go.RowKit Go.Shelf
attribute [local go_sem] Oper.semAt_some
set_option maxRecDepth 100000
set_option maxHeartbeats 12800000
theorem Tryz.fldX0 (x0 x1 x2 x3:Value) (w:World):(Instr.field 82 (.agg #[x0,x1,x2,x3]) 0).run Tryz.prog w= .ok x0 w:=by kernel_rfl
theorem Tryz.fldX1 (x0 x1 x2 x3:Value) (w:World):(Instr.field 82 (.agg #[x0,x1,x2,x3]) 1).run Tryz.prog w= .ok x1 w:=by kernel_rfl
theorem Tryz.fldX3 (x0 x1 x2 x3:Value) (w:World):(Instr.field 82 (.agg #[x0,x1,x2,x3]) 3).run Tryz.prog w= .ok x3 w:=by kernel_rfl
theorem q0o {α:Type} (r:Pr α):(∃ er q,r= .bad er q)∨(∃ a t o,r= .ok a t o):=by
 cases r with
 | ok a t o=>exact .inr ⟨a,t,o,rfl⟩
 | bad e q=>exact .inl ⟨e,q,rfl⟩
theorem q02 {α β:Type} {x:PM α} {f: α→PM β} {t o:Nat} {a: α} {t' o':Nat} (h:x t o= .ok a t' o'):q07 x f t o=f a t' o':=by unfold q07;rw [h];rfl
theorem q04 {α β:Type} {x:PM α} {f: α→PM β} {t o:Nat} {e q:Nat} (h:x t o= .bad e q):q07 x f t o= .bad e q:=by unfold q07;rw [h];rfl
theorem q08 {w:World} {B:Nat} {t:TypeId} {y0 y1 y2 y3:Value} (h:w.heap[B]? =some (.cells #[y0,y1,y2,y3] t (0,0))):
 w.cell? ⟨B,0,none⟩=some y0∧w.cell? ⟨B,1,none⟩=some y1∧w.cell? ⟨B,2,none⟩=some y2∧w.cell? ⟨B,3,none⟩=some y3:=by
 refine ⟨?_,?_,?_,?_⟩ <;> rw [cell_of_row _ _ _ _ _ _ h] <;> rfl
theorem q16 {w:World} {B:Nat} {t:TypeId} {cs:Array Value} (h:w.heap[B]? =some (.cells cs t (0,0))):
 w.frozen? ⟨B,0,none⟩=false∧w.frozen? ⟨B,1,none⟩=false∧w.frozen? ⟨B,2,none⟩=false∧w.frozen? ⟨B,3,none⟩=false:=⟨q0f h,q0f h,q0f h,q0f h⟩
def PxR {α:Type} (B:Nat) (so:Option Addr) (sc:Nat) (ws:List Tok) (nb:Nat) (w:World) (E: α→World→Value→Prop) (r:Pr α) (e:Ending) (w':World):Prop:=Bt B w w'∧
 match r with
 | .ok a t o=>(∃ v,e= .returned v∧E a w' v)∧PX w' B so sc ws nb t o
 | .bad er q=>e= .panicked (fcs er q)
def TkE (x:Tok) (w':World) (v:Value):Prop:=v=tokV x
section
variable {B:Nat} {so:Option Addr} {sc:Nat} {ws:List Tok} {nb:Nat}
theorem q0p {t o:Nat} (s:List UInt8) {b:Bool} (hs:syP ws t s=b) (u:World) (hx:PX u B so sc ws nb t o):Calls Tryz.prog 193 #[.pointer (some ⟨B,0,none⟩),.string ⟨s.toArray⟩] u fun e w'=>e= .returned (.bool b)∧Below u.heap.size u w':=by
 subst hs;exact w_says s u hx.pat
theorem isX {t o:Nat} (k:Nat) {b:Bool} (hs:isP ws k t=b) (u:World) (hx:PX u B so sc ws nb t o):Calls Tryz.prog 237 #[.pointer (some ⟨B,0,none⟩),.int .i64 (k:Int)] u fun e w'=>e= .returned (.bool b)∧Below u.heap.size u w':=by
 subst hs;exact w_isK k u hx.pat
theorem hereX {t o:Nat} (u:World) (hx:PX u B so sc ws nb t o):Calls Tryz.prog 158 #[.pointer (some ⟨B,0,none⟩)] u fun e w'=>e= .returned (tokV (hrP ws t))∧Below u.heap.size u w':=w_here u hx.pat
theorem q1l {t o:Nat} (ht:t<ws.length) (u:World) (hx:PX u B so sc ws nb t o):Calls Tryz.prog 199 #[.pointer (some ⟨B,0,none⟩)] u fun e w'=>e= .returned (tokV (hrP ws t))∧Bt B u w'∧PX w' B so sc ws nb (t+1) o:=
 (w_take u hx.pat ht).mono fun e w' ⟨h1,h2,h3⟩=>⟨h1,h2,hx.bt h2 h3⟩
theorem faultX {t o:Nat} (u:World) (hx:PX u B so sc ws nb t o):Calls Tryz.prog 107 #[.pointer (some ⟨B,0,none⟩)] u fun e w'=>e= .returned (.agg #[.int .i64 (ftE ws t:Int),.int .i64 (ftQ ws nb t:Int)])∧Below u.heap.size u w':=w_faultS u hx.pat
theorem q2r {t o:Nat} (s:List UInt8) (u:World) (hx:PX u B so sc ws nb t o):Calls Tryz.prog 221 #[.pointer (some ⟨B,0,none⟩),.string ⟨s.toArray⟩] u fun e w'=>PxR B so sc ws nb u TkE (q1r ws nb s t o) e w':=by
 obtain ⟨R,hR⟩:∃ R,q1r ws nb s t o=R:=⟨_,rfl⟩;rw [hR];unfold q1r at hR;have HS0:=hQz (SB.new (Fl:=false) (tr:=[]) hx (fun b (hb:u.heap.size≤b)=>hb) (fun b hb=>by have:=hx.pat.lt;omega) (fun q hq=>by simp at hq));obtain ⟨c,hc⟩:∃ c,syP ws t s=c:=⟨_,rfl⟩
 cases c with
 | true=>
  rw [if_pos (by rw [hc])] at hR;unfold q0K at hR;have HR:=hQz hR;clear hR;go_in;go_wp2_with fail;have HS1:=hQz (HS0.out.alloc [.int .i64 0,.int .i64 0,.int .i64 0,.string ⟨#[]⟩] 82);refine (q0p s hc _ HS1.out.px).mono ?_;rintro e w1 ⟨rfl,hb⟩;have HS2:=hQz (HS1.out.keep hb);clear hb;go_wp2_with fail;refine (q1l (q0V hc) _ HS2.out.px).mono ?_;rintro e w2 ⟨rfl,hb,hp⟩;have HS3:=hQz (HS2.out.step hb hp);clear hb hp;generalize hrP ws t=T at *;obtain ⟨kd,pa,fi,tx,er⟩:=T;unfold tokV;dsimp only;obtain ⟨c0,c1,c2,c3⟩:=q08 HS3.out.bb0;obtain ⟨cf0,cf1,cf2,cf3⟩:=q16 HS3.out.bb0;go_wp2_with fail;generalize hzZ:((((w2).setCell ⟨u.heap.size,0,none⟩ (.int .i64 (kd:Int))).setCell ⟨u.heap.size,1,none⟩ (.int .i64 (pa:Int))).setCell ⟨u.heap.size,2,none⟩ (.int .i64 (fi:Int))).setCell ⟨u.heap.size,3,none⟩ (.string ⟨tx.toArray⟩)=WZ;have PZ:=q22 HS3.out.bb0 hzZ;obtain ⟨m0,m1,m2,m3⟩:=q08 PZ.new;have HZ:=HS3.out.put 0 _ _ [.int .i64 (kd:Int),.int .i64 (pa:Int),.int .i64 (fi:Int),.string ⟨tx.toArray⟩] _ rfl PZ;refine bodyPost_ret (v:= .agg #[.int .i64 (kd:Int),.int .i64 (pa:Int),.int .i64 (fi:Int),.string ⟨tx.toArray⟩]) (by simp [results,Tryz.results221,go_sem,m0,m1,m2,m3]) rfl ?_;have hR:=HR.out;refine ⟨HZ.bo.toBt,?_⟩;rw [← hR];exact ⟨⟨_,rfl,rfl⟩,HZ.px⟩
 | false=>
  rw [if_neg (by rw [hc];decide)] at hR;unfold pFt at hR;have HR:=hQz hR;clear hR;go_in;go_wp2_with fail;have HS1:=hQz (HS0.out.alloc [.int .i64 0,.int .i64 0,.int .i64 0,.string ⟨#[]⟩] 82);refine (q0p s hc _ HS1.out.px).mono ?_;rintro e w1 ⟨rfl,hb⟩;have HS2:=hQz (HS1.out.keep hb);clear hb;go_wp2_with fail;refine (faultX _ HS2.out.px).mono ?_;rintro e w2 ⟨rfl,hb⟩;have HS3:=hQz (HS2.out.keep hb);clear hb;generalize ftE ws t=fe at *;generalize ftQ ws nb t=fq at *;go_wp2_with fail;exact ⟨rfl,HS3.out.bo.toBt,by rw [← HR.out];rfl⟩
theorem beX {t o:Nat} (k:Nat) (hk:k≠0) (u:World) (hx:PX u B so sc ws nb t o):Calls Tryz.prog 219 #[.pointer (some ⟨B,0,none⟩),.int .i64 (k:Int)] u fun e w'=>PxR B so sc ws nb u TkE (pBe ws nb k t o) e w':=by
 obtain ⟨R,hR⟩:∃ R,pBe ws nb k t o=R:=⟨_,rfl⟩;rw [hR];unfold pBe at hR;have HS0:=hQz (SB.new (Fl:=false) (tr:=[]) hx (fun b (hb:u.heap.size≤b)=>hb) (fun b hb=>by have:=hx.pat.lt;omega) (fun q hq=>by simp at hq));obtain ⟨c,hc⟩:∃ c,isP ws k t=c:=⟨_,rfl⟩
 cases c with
 | true=>
  rw [if_pos (by rw [hc])] at hR;unfold q0K at hR;have HR:=hQz hR;clear hR;go_in;go_wp2_with fail;have HS1:=hQz (HS0.out.alloc [.int .i64 0,.int .i64 0,.int .i64 0,.string ⟨#[]⟩] 82);refine (isX k hc _ HS1.out.px).mono ?_;rintro e w1 ⟨rfl,hb⟩;have HS2:=hQz (HS1.out.keep hb);clear hb;go_wp2_with fail;refine (q1l (is_lt hk hc) _ HS2.out.px).mono ?_;rintro e w2 ⟨rfl,hb,hp⟩;have HS3:=hQz (HS2.out.step hb hp);clear hb hp;generalize hrP ws t=T at *;obtain ⟨kd,pa,fi,tx,er⟩:=T;unfold tokV;dsimp only;obtain ⟨c0,c1,c2,c3⟩:=q08 HS3.out.bb0;obtain ⟨cf0,cf1,cf2,cf3⟩:=q16 HS3.out.bb0;go_wp2_with fail;generalize hzZ:((((w2).setCell ⟨u.heap.size,0,none⟩ (.int .i64 (kd:Int))).setCell ⟨u.heap.size,1,none⟩ (.int .i64 (pa:Int))).setCell ⟨u.heap.size,2,none⟩ (.int .i64 (fi:Int))).setCell ⟨u.heap.size,3,none⟩ (.string ⟨tx.toArray⟩)=WZ;have PZ:=q22 HS3.out.bb0 hzZ;obtain ⟨m0,m1,m2,m3⟩:=q08 PZ.new;have HZ:=HS3.out.put 0 _ _ [.int .i64 (kd:Int),.int .i64 (pa:Int),.int .i64 (fi:Int),.string ⟨tx.toArray⟩] _ rfl PZ;refine bodyPost_ret (v:= .agg #[.int .i64 (kd:Int),.int .i64 (pa:Int),.int .i64 (fi:Int),.string ⟨tx.toArray⟩]) (by simp [results,Tryz.results219,go_sem,m0,m1,m2,m3]) rfl ?_;have hR:=HR.out;refine ⟨HZ.bo.toBt,?_⟩;rw [← hR];exact ⟨⟨_,rfl,rfl⟩,HZ.px⟩
 | false=>
  rw [if_neg (by rw [hc];decide)] at hR;unfold pFt at hR;have HR:=hQz hR;clear hR;go_in;go_wp2_with fail;have HS1:=hQz (HS0.out.alloc [.int .i64 0,.int .i64 0,.int .i64 0,.string ⟨#[]⟩] 82);refine (isX k hc _ HS1.out.px).mono ?_;rintro e w1 ⟨rfl,hb⟩;have HS2:=hQz (HS1.out.keep hb);clear hb;go_wp2_with fail;refine (faultX _ HS2.out.px).mono ?_;rintro e w2 ⟨rfl,hb⟩;have HS3:=hQz (HS2.out.keep hb);clear hb;generalize ftE ws t=fe at *;generalize ftQ ws nb t=fq at *;go_wp2_with fail;exact ⟨rfl,HS3.out.bo.toBt,by rw [← HR.out];rfl⟩
theorem openX {t o:Nat} (ht:t<ws.length) (u:World) (hx:PX u B so sc ws nb t o):Calls Tryz.prog 236 #[.pointer (some ⟨B,0,none⟩)] u fun e w'=>PxR B so sc ws nb u TkE (pOpen ws t o) e w':=by
 obtain ⟨R,hR⟩:∃ R,pOpen ws t o=R:=⟨_,rfl⟩;rw [hR];unfold pOpen at hR;have HS0:=hQz (SB.new (Fl:=false) (tr:=[]) hx (fun b (hb:u.heap.size≤b)=>hb) (fun b hb=>by have:=hx.pat.lt;omega) (fun q hq=>by simp at hq));have hfl:=Tryz.fldX1;have ho64:=hx.pat.open_;have hBl:=hx.pat.lt;by_cases h64:o=64
 · rw [if_pos h64] at hR;have HR:=hQz hR;clear hR;subst h64;have HA:=hQz (HS0.out.alloc [.int .i64 0,.int .i64 0,.int .i64 0,.string ⟨#[]⟩] 82);have c3:∀ x,(u.alloc x).cell? ⟨B,3,none⟩=some (.int .i64 64):=fun x=>(q06 (hx.pat.alloc x).box).2.2.2.1;go_in;go_wp2_with fail;refine (hereX _ HA.out.px).mono ?_;rintro e w1 ⟨rfl,hb⟩;have HS1:=hQz (HA.out.keep hb);clear hb;generalize hrP ws t=T at *;obtain ⟨kd,pa,fi,tx,er⟩:=T;unfold tokV;dsimp only at HR ⊢;go_wp2_with fail;exact ⟨rfl,HS1.out.bo.toBt,by rw [← HR.out];rfl⟩
 · rw [if_neg h64] at hR;have HR:=hQz hR;clear hR;have q64:((o:Int)==64)=false:=by rw [bqZ];omega
   have HA:=hQz (HS0.out.alloc [.int .i64 0,.int .i64 0,.int .i64 0,.string ⟨#[]⟩] 82);obtain ⟨W1,hW1⟩:∃ W,u.alloc (.cells #[.int .i64 0,.int .i64 0,.int .i64 0,.string ⟨#[]⟩] 82)=W:=⟨_,rfl⟩;rw [hW1] at HA;obtain ⟨c0,c1,c2,c3,f0,f1,f2,f3⟩:=q06 HA.out.px.pat.box;obtain ⟨W2,hW2⟩:∃ W,W1.setCell ⟨B,3,none⟩ (.int .i64 ((o:Int)+1))=W:=⟨_,rfl⟩;have hb2:Bt B W1 W2:=by rw [← hW2];exact (Bt.refl B W1).set 3 _
   have b2:W2.heap[B]? =some (.cells #[.slice so ws.length sc,.int .i64 (t:Int),.int .i64 (nb:Int),.int .i64 ((o+1:Nat):Int)] 66 (0,0)):=by rw [← hW2];exact q1u (i:=3) _ HA.out.px.pat.box
   have HS1:=hQz (HA.out.step hb2 (HA.out.px.bt hb2 (HA.out.px.pat.stepT t (o+1) hb2 HA.out.px.pat.le (by omega) b2)));clear hb2 b2 hx;go_in;go_wp2_with fail;refine (q1l ht _ HS1.out.px).mono ?_;rintro e w1 ⟨rfl,hb,hp⟩;have HS2:=hQz (HS1.out.step hb hp);clear hb hp;clear hW1 hW2 c0 c1 c2 c3 f0 f1 f2 f3;generalize hrP ws t=T at *;obtain ⟨kd,pa,fi,tx,er⟩:=T;unfold tokV;dsimp only;obtain ⟨c0,c1,c2,c3⟩:=q08 HS2.out.bb0;obtain ⟨cf0,cf1,cf2,cf3⟩:=q16 HS2.out.bb0;go_wp2_with fail;generalize hzZ:((((w1).setCell ⟨u.heap.size,0,none⟩ (.int .i64 (kd:Int))).setCell ⟨u.heap.size,1,none⟩ (.int .i64 (pa:Int))).setCell ⟨u.heap.size,2,none⟩ (.int .i64 (fi:Int))).setCell ⟨u.heap.size,3,none⟩ (.string ⟨tx.toArray⟩)=WZ;have PZ:=q22 HS2.out.bb0 hzZ;obtain ⟨m0,m1,m2,m3⟩:=q08 PZ.new;have HZ:=HS2.out.put 0 _ _ [.int .i64 (kd:Int),.int .i64 (pa:Int),.int .i64 (fi:Int),.string ⟨tx.toArray⟩] _ rfl PZ;refine bodyPost_ret (v:= .agg #[.int .i64 (kd:Int),.int .i64 (pa:Int),.int .i64 (fi:Int),.string ⟨tx.toArray⟩]) (by simp [results,Tryz.results236,go_sem,m0,m1,m2,m3]) rfl ?_;have hR:=HR.out;refine ⟨HZ.bo.toBt,?_⟩;rw [← hR];exact ⟨⟨_,rfl,rfl⟩,HZ.px⟩
theorem enterX {t o:Nat} (s:List UInt8) (u:World) (hx:PX u B so sc ws nb t o):Calls Tryz.prog 218 #[.pointer (some ⟨B,0,none⟩),.string ⟨s.toArray⟩] u fun e w'=>PxR B so sc ws nb u TkE (q1n ws nb s t o) e w':=by
 obtain ⟨R,hR⟩:∃ R,q1n ws nb s t o=R:=⟨_,rfl⟩;rw [hR];unfold q1n at hR;have HS0:=hQz (SB.new (Fl:=false) (tr:=[]) hx (fun b (hb:u.heap.size≤b)=>hb) (fun b hb=>by have:=hx.pat.lt;omega) (fun q hq=>by simp at hq));obtain ⟨c,hc⟩:∃ c,syP ws t s=c:=⟨_,rfl⟩
 cases c with
 | true=>
  rw [if_pos (by rw [hc])] at hR;have HR:=hQz hR;clear hR;go_in;go_wp2_with fail;have HS1:=hQz (HS0.out.alloc [.int .i64 0,.int .i64 0,.int .i64 0,.string ⟨#[]⟩] 82);refine (q0p s hc _ HS1.out.px).mono ?_;rintro e w1 ⟨rfl,hb⟩;have HS2:=hQz (HS1.out.keep hb);clear hb;go_wp2_with fail;refine (openX (q0V hc) _ HS2.out.px).mono ?_;rintro e w9 ⟨hb,hm⟩;have hR:=HR.out;rw [hR] at hm;obtain ⟨er,q,hr⟩|⟨x,t1,o1,hr⟩:=q0o R
  · rw [hr] at hm;obtain rfl:e= .panicked (fcs er q):=hm;exact ⟨rfl,(HS2.out.bo.trans (Bo.ofBt hb)).toBt,by rw [hr]⟩
  rw [hr] at hm;obtain ⟨⟨v,rfl,hE⟩,hp⟩:=hm;have HR:=hQz hr.symm;unfold TkE at hE;subst hE;have HS3:=hQz (HS2.out.step hb hp);clear hb hp hR;obtain ⟨kd,pa,fi,tx,er⟩:=x;unfold tokV;dsimp only;obtain ⟨c0,c1,c2,c3⟩:=q08 HS3.out.bb0;obtain ⟨cf0,cf1,cf2,cf3⟩:=q16 HS3.out.bb0;clear hr;go_wp2_with fail;generalize hzZ:((((w9).setCell ⟨u.heap.size,0,none⟩ (.int .i64 (kd:Int))).setCell ⟨u.heap.size,1,none⟩ (.int .i64 (pa:Int))).setCell ⟨u.heap.size,2,none⟩ (.int .i64 (fi:Int))).setCell ⟨u.heap.size,3,none⟩ (.string ⟨tx.toArray⟩)=WZ;have PZ:=q22 HS3.out.bb0 hzZ;obtain ⟨m0,m1,m2,m3⟩:=q08 PZ.new;have HZ:=HS3.out.put 0 _ _ [.int .i64 (kd:Int),.int .i64 (pa:Int),.int .i64 (fi:Int),.string ⟨tx.toArray⟩] _ rfl PZ;refine bodyPost_ret (v:= .agg #[.int .i64 (kd:Int),.int .i64 (pa:Int),.int .i64 (fi:Int),.string ⟨tx.toArray⟩]) (by simp [results,Tryz.results218,go_sem,m0,m1,m2,m3]) rfl ?_;have hR:=HR.out;refine ⟨HZ.bo.toBt,?_⟩;rw [← hR];exact ⟨⟨_,rfl,rfl⟩,HZ.px⟩
 | false=>
  rw [if_neg (by rw [hc];decide)] at hR;unfold pFt at hR;have HR:=hQz hR;clear hR;go_in;go_wp2_with fail;have HS1:=hQz (HS0.out.alloc [.int .i64 0,.int .i64 0,.int .i64 0,.string ⟨#[]⟩] 82);refine (q0p s hc _ HS1.out.px).mono ?_;rintro e w1 ⟨rfl,hb⟩;have HS2:=hQz (HS1.out.keep hb);clear hb;go_wp2_with fail;refine (faultX _ HS2.out.px).mono ?_;rintro e w2 ⟨rfl,hb⟩;have HS3:=hQz (HS2.out.keep hb);clear hb;generalize ftE ws t=fe at *;generalize ftQ ws nb t=fq at *;go_wp2_with fail;exact ⟨rfl,HS3.out.bo.toBt,by rw [← HR.out];rfl⟩
theorem takesF {t o:Nat} (s:List UInt8) (hc:syP ws t s=false) (u:World) (hx:PX u B so sc ws nb t o):Calls Tryz.prog 239 #[.pointer (some ⟨B,0,none⟩),.string ⟨s.toArray⟩] u fun e w'=>e= .returned (.bool false)∧Below u.heap.size u w':=by
 go_in;go_wp2_with fail;refine (q0p s hc _ hx).mono ?_;rintro e w1 ⟨rfl,hb⟩;have HB:=hQz hb;clear hb;go_wp2_with fail;go_ret;exact ⟨rfl,HB.out⟩
theorem takesT {t o:Nat} (s:List UInt8) (hc:syP ws t s=true) (u:World) (hx:PX u B so sc ws nb t o):Calls Tryz.prog 239 #[.pointer (some ⟨B,0,none⟩),.string ⟨s.toArray⟩] u fun e w'=>e= .returned (.bool true)∧Bt B u w'∧PX w' B so sc ws nb (t+1) o:=by
 have hlt:=q0V hc;have hfew:=hx.pat.few;have HX:=hQz hx;go_in;go_wp2_with fail;refine (q0p s hc _ hx).mono ?_;rintro e w1 ⟨rfl,hb⟩;have hp:=HX.out.keep hb;obtain ⟨c0,c1,c2,c3,f0,f1,f2,f3⟩:=q06 hp.pat.box;have hBl:=hp.pat.lt;have HB:=hQz (And.intro hb hp);clear hb hp hx;go_wp2_with fail;have hb2:Bt B w1 (w1.setCell ⟨B,1,none⟩ (.int .i64 ((t:Int)+1))):=(Bt.refl B w1).set 1 _;have b2:(w1.setCell ⟨B,1,none⟩ (.int .i64 ((t:Int)+1))).heap[B]? =some (.cells #[.slice so ws.length sc,.int .i64 ((t+1:Nat):Int),.int .i64 (nb:Int),.int .i64 (o:Int)] 66 (0,0)):=q1u (i:=1) _ HB.out.2.pat.box;go_ret;exact ⟨rfl,(Bt.of HB.out.1).trans hb2,HB.out.2.bt hb2 (HB.out.2.pat.stepT (t+1) o hb2 (by omega) HB.out.2.pat.open_ b2)⟩
theorem q1p {t o:Nat} (s:List UInt8) (ho:1≤o) (u:World) (hx:PX u B so sc ws nb t o):Calls Tryz.prog 222 #[.pointer (some ⟨B,0,none⟩),.string ⟨s.toArray⟩] u fun e w'=>PxR B so sc ws nb u (fun _ _ v=>v= .tuple #[]) (q0Q ws nb s t o) e w':=by
 obtain ⟨R,hR⟩:∃ R,q0Q ws nb s t o=R:=⟨_,rfl⟩;rw [hR];unfold q0Q at hR;have HS0:=hQz (SB.new (Fl:=false) (tr:=[]) hx (fun b (hb:u.heap.size≤b)=>hb) (fun b hb=>by have:=hx.pat.lt;omega) (fun q hq=>by simp at hq));have HR:=hQz hR;have HX:=hQz hx;clear hR;go_in;go_wp2_with fail;refine (q2r s _ HS0.out.px).mono ?_;rintro e w1 ⟨hb,hm⟩;have hR:=HR.out;obtain ⟨er,q,hr⟩|⟨x,t1,o1,hr⟩:=q0o (q1r ws nb s t o)
 · rw [hr] at hm;rw [q04 hr] at hR;obtain rfl:e= .panicked (fcs er q):=hm;exact ⟨rfl,(HS0.out.bo.trans (Bo.ofBt hb)).toBt,by rw [← hR]⟩
 rw [hr] at hm;rw [q02 hr] at hR;(try dsimp only at hR)
 obtain ⟨⟨v,rfl,hE⟩,hp⟩:=hm;have HO1:=hQz (q0x (nb:=nb) s _ _ _ _ _ HS0.out.px.pat.open_ hr);replace HR:=hQz hR;have HS1:=hQz (HS0.out.step hb hp);clear hb hp hr hR;have hbl:=HO1.out;subst hbl;obtain ⟨c0,c1,c2,c3,f0,f1,f2,f3⟩:=q06 HS1.out.px.pat.box;have hBl:=HS1.out.px.pat.lt;have ho64:=HX.out.pat.open_;have hoi:(1:Int)≤(o1:Int):=by omega
 clear hx HX;go_wp2_with fail;have hb2:Bt B w1 (w1.setCell ⟨B,3,none⟩ (.int .i64 ((o1:Int)-1))):=(Bt.refl B w1).set 3 _
 have b2:(w1.setCell ⟨B,3,none⟩ (.int .i64 ((o1:Int)-1))).heap[B]? =some (.cells #[.slice so ws.length sc,.int .i64 (t1:Int),.int .i64 (nb:Int),.int .i64 ((o1-1:Nat):Int)] 66 (0,0)):=by
  rw [show ((o1-1:Nat):Int)=(o1:Int)-1 by omega];exact q1u (i:=3) _ HS1.out.px.pat.box
 have HZ:=HS1.out.step hb2 (HS1.out.px.bt hb2 (HS1.out.px.pat.stepT t1 (o1-1) hb2 HS1.out.px.pat.le (by omega) b2));refine bodyPost_ret (v:= .tuple #[]) (by simp [results,Tryz.results222,go_sem]) rfl ?_;have hR:=HR.out;refine ⟨HZ.bo.toBt,?_⟩;rw [← hR];exact ⟨⟨_,rfl,rfl⟩,HZ.px⟩
end
end Go.Proofs.YtdjleoglphgdgaaGreatDoor
namespace Go.Proofs.YtdjleoglphgdgaaGreatDoor
open Go.RowKit Go.Shelf
set_option maxRecDepth 100000
set_option maxHeartbeats 12800000
section
variable {Fl:Bool} {D:Nat→Prop} {r0:Option Nat} {w W W':World} {B:Nat} {so:Option Addr} {sc:Nat} {ws:List Tok} {nb t o:Nat} {bx:List (Nat × List Value × TypeId)} {rv:Value} {Ts:List NT} {tr:List (NT × NV)}
theorem SB.st10 {Q:World→Prop} (h:SB Fl D r0 w B so sc ws nb t o bx rv Ts tr W) (i:Nat) {g:Nat} {l:List Value} {ty:TypeId} (hi:bx[i]? =some (g,l,ty)) (hl:l.length=10) {a0 a1 a2 a3 a4 a5 a6 a7 a8 a9:Value} (k:∀ WZ,SB Fl D r0 w B so sc ws nb t o (bx.set i (g,[a0,a1,a2,a3,a4,a5,a6,a7,a8,a9],ty)) rv Ts tr WZ→Q WZ):Q (((((((((((W).setCell ⟨g,0,none⟩ a0).setCell ⟨g,1,none⟩ a1).setCell ⟨g,2,none⟩ a2).setCell ⟨g,3,none⟩ a3).setCell ⟨g,4,none⟩ a4).setCell ⟨g,5,none⟩ a5).setCell ⟨g,6,none⟩ a6).setCell ⟨g,7,none⟩ a7).setCell ⟨g,8,none⟩ a8).setCell ⟨g,9,none⟩ a9):=by
 have hb:=(h.bxs _ (List.mem_of_getElem? hi)).2.2
 match l,hl,hi,hb with
 | [y0,y1,y2,y3,y4,y5,y6,y7,y8,y9],_,hi,hb=>exact k _ (h.put i g _ [a0,a1,a2,a3,a4,a5,a6,a7,a8,a9] ty hi (q0J hb rfl))
end
theorem q0C {P:Program} {fn:Func} {R:Ending→World→Prop} {a:Act} {W:World} {k g:Nat} {ty:TypeId} {a0 a1 a2 a3 a4 a5 a6 a7 a8 a9:Value} (hres:fn.results= #[.cell k 28]) (hP:P=Tryz.prog) (hk:a.tmps[k]?.getD undef= .pointer (some ⟨g,0,none⟩)) (hd:a.defers=[]) (hc:W.heap[g]? =some (.cells [a0,a1,a2,a3,a4,a5,a6,a7,a8,a9].toArray ty (0,0))) (hR:R (.returned (.agg #[a0,a1,a2,a3,a4,a5,a6,a7,a8,a9])) W):bodyPost P fn R .ret a W:=by
 obtain ⟨m0,m1,m2,m3,m4,m5,m6,m7,m8,m9⟩:=q00 hc;subst hP;exact bodyPost_ret (v:= .agg #[a0,a1,a2,a3,a4,a5,a6,a7,a8,a9]) (by simp [results,hres,go_sem,hk,m0,m1,m2,m3,m4,m5,m6,m7,m8,m9]) hd hR
theorem PxR.on {α:Type} {B:Nat} {so:Option Addr} {sc:Nat} {ws:List Tok} {nb:Nat} {W:World} {fn:FuncId} {args:Array Value} {E: α→World→Value→Prop} {r:Pr α} {K:Ending→World→Prop} (hc:Calls Tryz.prog fn args W fun e w'=>PxR B so sc ws nb W E r e w') (hb:∀ er q w',r= .bad er q→Bt B W w'→K (.panicked (fcs er q)) w') (ho:∀ a t' o' v w',r= .ok a t' o'→Bt B W w'→PX w' B so sc ws nb t' o'→E a w' v→K (.returned v) w'):Calls Tryz.prog fn args W K:=by
 refine hc.mono ?_;rintro e w' ⟨h1,h2⟩
 cases r with
 | ok a t' o'=>
  obtain ⟨⟨v,rfl,h3⟩,h4⟩:=h2;exact ho a t' o' v w' rfl h1 h4 h3
 | bad er q=>
  have h3:e= .panicked (fcs er q):=h2;subst h3;exact hb er q w' rfl h1
theorem nvf_get:∀ (ds:List NV) (i j:Nat) (d:NV),ds[i]? =some d→j<10→(ds.flatMap NV.l)[i*10+j]? =d.l[j]?
 | [],i,j,d,h,_=>by simp at h
 | x::ds,0,j,d,h,hj=>by
  simp only [List.getElem?_cons_zero,Option.some.injEq] at h;subst h;rw [List.flatMap_cons,Nat.zero_mul,Nat.zero_add,List.getElem?_append_left (by show j<10;exact hj)]
 | x::ds,i+1,j,d,h,hj=>by
  rw [List.getElem?_cons_succ] at h;rw [List.flatMap_cons,List.getElem?_append_right (by show 10≤(i+1)*10+j;omega),show (i+1)*10+j-x.l.length=i*10+j by show (i+1)*10+j-10=_;omega];exact nvf_get ds i j d h hj
theorem nvf_len:∀ ds:List NV,(ds.flatMap NV.l).length=ds.length*10
 | []=>rfl
 | x::ds=>by
  rw [List.flatMap_cons,List.length_append,nvf_len ds,List.length_cons];show 10+_=_;omega
theorem NRw.cell {D:Nat→Prop} {W:World} {v:Value} {Ts:List NT} {ds:List NV} (h:NRw D W v Ts ds) {i j g:Nat} {d:NV} (hg:v.ownBlock=some g) (hi:ds[i]? =some d) (hj:j<10):W.cell? ⟨g,i*10+j,none⟩=d.l[j]? :=by
 have hil:=(List.getElem?_eq_some_iff.1 hi).1;have hlen:=h.len;rcases h.own.2 with ⟨rfl,_⟩|⟨g',cap,cur,rfl,_,hh,_,_,_,htk⟩
 · cases hg
 · have:g'=g:=by injection hg
   subst this;rw [cell_of_row _ _ _ _ _ _ hh,← Array.getElem?_toList,← nvf_get ds i j d hi hj,← htk,List.getElem?_take_of_lt (by omega)]
theorem NRw.weak {D D':Nat→Prop} {W:World} {v:Value} {Ts:List NT} {ds:List NV} (h:NRw D W v Ts ds) (hlo:∀ b,D b→b<W.heap.size→D' b):NRw D' W v Ts ds:=h.keep (Nat.le_refl _) (fun _ _ _=>rfl) hlo (fun _ _=>rfl)
theorem NRw.lit {D:Nat→Prop} {W:World} {g:Nat} {Ts:List NT} {ds:List NV} (hl:ds.length=Ts.length) (hn:Ts.length≤1000) (hh:W.heap[g]? =some (.cells (ds.flatMap NV.l).toArray 28 (0,0))) (he:∀ (i:Nat) T d,Ts[i]? =some T→ds[i]? =some d→NdI D W T d):NRw D W (.slice (some ⟨g,0,none⟩) Ts.length Ts.length) Ts ds:=by
 refine ⟨⟨by rw [nvf_len,hl],.inr ⟨g,Ts.length,_,rfl,Nat.zero_le _,hh,Nat.le_refl _,by unfold maxLen;omega,by rw [List.size_toArray,nvf_len,hl],?_⟩⟩,hl,he⟩;show List.take _ (ds.flatMap NV.l)=_;rw [List.take_of_length_le (by rw [nvf_len,hl];exact Nat.le_refl _)]
theorem NdI.heights {D:Nat→Prop} {W:World} {Ts:List NT} {ds:List NV} (he:∀ (i:Nat) T d,Ts[i]? =some T→ds[i]? =some d→NdI D W T d):∀ n,∃ H,∀ (i:Nat) T d,i<n→Ts[i]? =some T→ds[i]? =some d→InN D W H T d.v
 | 0=>⟨0,fun i T d hi=>by omega⟩
 | n+1=>by
  obtain ⟨H,hH⟩:=NdI.heights he n;by_cases hT:∃ T d,Ts[n]? =some T∧ds[n]? =some d
  · obtain ⟨T,d,h1,h2⟩:=hT;obtain ⟨k,hk⟩:=he n T d h1 h2;refine ⟨max H k,fun i T' d' hi g1 g2=> ?_⟩;by_cases e:i=n
    · subst e;rw [h1] at g1;rw [h2] at g2
      cases g1
      cases g2
      exact hk.le (Nat.le_max_right _ _)
    · exact (hH i T' d' (by omega) g1 g2).le (Nat.le_max_left _ _)
  · refine ⟨H,fun i T d hi g1 g2=> ?_⟩;by_cases e:i=n
    · subst e;exact absurd ⟨T,d,g1,g2⟩ hT
    · exact hH i T d (by omega) g1 g2
theorem NV.agg (d:NV):d.v=ndV (fun j=>d.l.get ⟨j.1,j.2⟩):=rfl
theorem NdI.make {D D0:Nat→Prop} {W:World} {ko:Option Addr} {kc:Nat} {Ts:List NT} {ds:List NV} (op at_:Int) (tx:ByteArray) (vt:VT) (no:Option Addr) (nc:Nat) (ns:List ByteArray) (htx:tx.size≤140737488355328)
 (hv:InV D W 1 vt (.agg #[.int .i64 vt.kind,.string vt.num,.string vt.text,.slice none 0 0,.slice none 0 0])) (hvi:vt.items=[]) (hvk:vt.keys=[])
 (hns:ns.length≤nc∧ns.length≤140737488355328∧∀ k∈ns,k.size≤140737488355328) (hnr:0<ns.length→∃ b off,no=some ⟨b,off,none⟩∧D b∧b<W.heap.size∧∀ i,i<ns.length→W.cell? ⟨b,off+i,none⟩=some (.string (ns.getD i .empty)))
 (hr:NRw D0 W (.slice ko Ts.length kc) Ts ds) (hD:∀ b,D0 b→b<W.heap.size→D b) (hg:∀ g,(Value.slice ko Ts.length kc).ownBlock=some g→D g∧g<W.heap.size) (hk:Ts.length≤140737488355328):
 NdI D W (.mk op at_ tx vt ns Ts) ⟨op,at_,vt.kind,tx,vt.num,vt.text,none,none,no,ko,0,0,0,0,ns.length,nc,Ts.length,kc⟩:=by
 obtain ⟨H,hH⟩:=NdI.heights (fun i T d h1 h2=>(hr.els i T d h1 h2).weak hD) Ts.length
 have hup:∀ n,InV D W (n+1) vt (.agg #[.int .i64 vt.kind,.string vt.num,.string vt.text,.slice none 0 0,.slice none 0 0]):=fun n=>by
  induction n with
  | zero=>exact hv
  | succ n ih=>exact ih.up
 have hcap:Ts.length≤kc:=by
  rcases hr.own.2 with ⟨e,h0⟩|⟨g,cap,cur,e,_,_,h1,_⟩
  · rw [h0];exact Nat.zero_le _
  · injection e with _ _ e3;rw [e3];exact h1
 refine ⟨H+1,none,0,none,0,no,nc,ko,kc,?_,htx,?_,hns,⟨hcap,hk⟩,hnr,fun h0=> ?_⟩
 · show Value.agg #[_,_,_,_,_,_,_,_,_,_]=_;simp only [NT.op,NT.at_,NT.text,NT.value,NT.names,NT.kids,hvi,hvk,List.length_nil]
 · show InV D W (H+1) vt _;have:=hup H;simpa only [NT.value,hvi,hvk,List.length_nil] using this
 · rcases hr.own.2 with ⟨e,h1⟩|⟨g,cap,cur,e,_,hh,_⟩
   · exact absurd h0 (by show ¬ 0<Ts.length;omega)
   · injection e with e1 e2 e3;obtain ⟨h1,h2⟩:=hg g (by rw [e1];rfl);refine ⟨g,0,e1,h1,h2,fun i hi=> ?_⟩;have hi':i<Ts.length:=hi;have hid:i<ds.length:=by rw [hr.len];exact hi'
     refine ⟨fun j=>ds[i].l.get ⟨j.1,j.2⟩,fun j=> ?_,?_⟩
     · have:=hr.cell (i:=i) (j:=j.1) (g:=g) (by rw [e1];rfl) (List.getElem?_eq_getElem hid) j.2;rw [Nat.zero_add,this];exact List.getElem?_eq_getElem (l:=ds[i].l) j.2
     · have:=hH i Ts[i] ds[i] hi' (List.getElem?_eq_getElem hi') (List.getElem?_eq_getElem hid);rw [NV.agg] at this;exact this
theorem inv_leaf (D:Nat→Prop) (W:World) (k:Int) (num text:ByteArray) (h1:num.size≤140737488355328) (h2:text.size≤140737488355328):InV D W 1 (.mk k num text [] []) (.agg #[.int .i64 k,.string num,.string text,.slice none 0 0,.slice none 0 0]):=
 ⟨none,0,none,0,rfl,h1,h2,Nat.zero_le _,Nat.zero_le _,Nat.le_refl _,Nat.le_refl _,(fun k hk=>by cases hk),(fun h=>by cases h),(fun h=>by cases h)⟩
theorem q0N:(⟨#[]⟩:ByteArray).size≤140737488355328:=by decide
theorem NdI.kids {D D0:Nat→Prop} {W:World} {ko:Option Addr} {kc:Nat} {Ts:List NT} {ds:List NV} (op at_:Int) (tx:ByteArray) (htx:tx.size≤140737488355328)
 (hr:NRw D0 W (.slice ko Ts.length kc) Ts ds) (hD:∀ b,D0 b→b<W.heap.size→D b) (hg:∀ g,(Value.slice ko Ts.length kc).ownBlock=some g→D g∧g<W.heap.size) (hk:Ts.length≤140737488355328):
 NdI D W (.mk op at_ tx vtN [] Ts) ⟨op,at_,0,tx,⟨#[]⟩,⟨#[]⟩,none,none,none,ko,0,0,0,0,0,0,Ts.length,kc⟩:=
 NdI.make op at_ tx vtN none 0 [] htx (inv_leaf D W 0 .empty .empty q0N q0N) rfl rfl ⟨Nat.le_refl _,by decide,fun k hk=>by cases hk⟩ (fun h=>by cases h) hr hD hg hk
theorem NdI.leaf (D:Nat→Prop) (W:World) (op at_:Int) (tx:ByteArray) (htx:tx.size≤140737488355328):NdI D W (.mk op at_ tx vtN [] []) ⟨op,at_,0,tx,⟨#[]⟩,⟨#[]⟩,none,none,none,none,0,0,0,0,0,0,0,0⟩:=
 NdI.kids (D0:=D) (ds:=[]) op at_ tx htx (NRw.nil _ _) (fun b h _=>h) (fun g hg=>by cases hg) (by decide)
theorem NdI.cons_ (D:Nat→Prop) (W:World) (at_ k:Int) (num text:ByteArray) (h1:num.size≤140737488355328) (h2:text.size≤140737488355328):NdI D W (.mk 2 at_ .empty (.mk k num text [] []) [] []) ⟨2,at_,k,⟨#[]⟩,num,text,none,none,none,none,0,0,0,0,0,0,0,0⟩:=
 NdI.make (D0:=D) (ds:=[]) 2 at_ .empty (.mk k num text [] []) none 0 [] q0N (inv_leaf D W k num text h1 h2) rfl rfl ⟨Nat.le_refl _,by decide,fun k hk=>by cases hk⟩ (fun h=>by cases h) (NRw.nil _ _) (fun b h _=>h) (fun g hg=>by cases hg) (by decide)
theorem NdI.lit {D:Nat→Prop} {W:World} {g:Nat} {Ts:List NT} {ds:List NV} (op at_:Int) (tx:ByteArray) (htx:tx.size≤140737488355328) (hl:ds.length=Ts.length) (hn:Ts.length≤1000) (hh:W.heap[g]? =some (.cells (ds.flatMap NV.l).toArray 28 (0,0))) (hD:D g) (he:∀ (i:Nat) T d,Ts[i]? =some T→ds[i]? =some d→NdI D W T d):
 NdI D W (.mk op at_ tx vtN [] Ts) ⟨op,at_,0,tx,⟨#[]⟩,⟨#[]⟩,none,none,none,some ⟨g,0,none⟩,0,0,0,0,0,0,Ts.length,Ts.length⟩:=
 NdI.kids op at_ tx htx (NRw.lit hl hn hh he) (fun b h _=>h) (fun k hk=>by
  have:g=k:=by injection hk
  subst this;exact ⟨hD,(Array.getElem?_eq_some_iff.1 hh).1⟩) (by omega)
section
variable {Fl:Bool} {D:Nat→Prop} {r0:Option Nat} {w W:World} {B:Nat} {so:Option Addr} {sc:Nat} {ws:List Tok} {nb t o:Nat} {bx:List (Nat × List Value × TypeId)} {rv:Value} {Ts:List NT} {tr:List (NT × NV)} {x y z:NT × NV}
theorem SB.t0 (h:SB Fl D r0 w B so sc ws nb t o bx rv Ts (x::tr) W):NdI D W x.1 x.2:=(h.trs x mcS).weak (fun b hb _=>hb.1)
theorem SB.t1 (h:SB Fl D r0 w B so sc ws nb t o bx rv Ts (y::x::tr) W):NdI D W x.1 x.2:=(h.trs x (List.mem_cons_of_mem _ mcS)).weak (fun b hb _=>hb.1)
theorem SB.m0 (h:SB Fl D r0 w B so sc ws nb t o bx rv Ts (x::tr) W):NdI (Dm D bx rv) W x.1 x.2:=h.trs x mcS
theorem SB.m1 (h:SB Fl D r0 w B so sc ws nb t o bx rv Ts (y::x::tr) W):NdI (Dm D bx rv) W x.1 x.2:=h.trs x (List.mem_cons_of_mem _ mcS)
theorem SB.m2 (h:SB Fl D r0 w B so sc ws nb t o bx rv Ts (z::y::x::tr) W):NdI (Dm D bx rv) W x.1 x.2:=h.trs x (List.mem_cons_of_mem _ (List.mem_cons_of_mem _ mcS))
end
theorem els1 {D:Nat→Prop} {W:World} {T:NT} {d:NV} (h:NdI D W T d):∀ (i:Nat) T' d',[T][i]? =some T'→[d][i]? =some d'→NdI D W T' d'
 | 0,T',d',h1,h2=>by
  cases h1
  cases h2
  exact h
 | i+1,T',d',h1,h2=>by cases h1
theorem els2 {D:Nat→Prop} {W:World} {T S:NT} {d f:NV} (h:NdI D W T d) (k:NdI D W S f):∀ (i:Nat) T' d',[T,S][i]? =some T'→[d,f][i]? =some d'→NdI D W T' d'
 | 0,T',d',h1,h2=>by
  cases h1
  cases h2
  exact h
 | i+1,T',d',h1,h2=>els1 k i T' d' h1 h2
theorem els3 {D:Nat→Prop} {W:World} {T S R:NT} {d f e:NV} (h:NdI D W T d) (k:NdI D W S f) (m:NdI D W R e):∀ (i:Nat) T' d',[T,S,R][i]? =some T'→[d,f,e][i]? =some d'→NdI D W T' d'
 | 0,T',d',h1,h2=>by
  cases h1
  cases h2
  exact h
 | i+1,T',d',h1,h2=>els2 k m i T' d' h1 h2
end Go.Proofs.YtdjleoglphgdgaaGreatDoor
namespace Go.Proofs.YtdjleoglphgdgaaGreatDoor
open Go.RowKit Go.Shelf
attribute [local go_sem] Oper.semAt_some
set_option maxRecDepth 100000
set_option maxHeartbeats 12800000
theorem selfX (D:Nat→Prop) (a:Nat) (u:World):Calls Tryz.prog 274 #[.int .i64 (a:Int)] u fun e w'=>∃ d:NV,e= .returned d.v∧Below u.heap.size u w'∧NdI D w' (q2s a) d:=by
 go_in;go_wp2_with fail;refine bodyPost_ret (v:= .agg #[.int .i64 (1),.int .i64 (a:Int),.string ⟨#[]⟩,.int .i64 (0),.string ⟨#[]⟩,.string ⟨#[]⟩,.slice none 0 0,.slice none 0 0,.slice none 0 0,.slice none 0 0]) (by simp [results,Tryz.results274,go_sem]) rfl ?_;exact ⟨⟨1,(a:Int),0,⟨#[]⟩,⟨#[]⟩,⟨#[]⟩,none,none,none,none,0,0,0,0,0,0,0,0⟩,rfl,q0a u _,NdI.leaf D _ 1 (a:Int) .empty q0N⟩
theorem constX (D:Nat→Prop) (a:Nat) (k:Int) (num text:ByteArray) (h1:num.size≤140737488355328) (h2:text.size≤140737488355328) (u:World):Calls Tryz.prog 257 #[.int .i64 (a:Int),.agg #[.int .i64 k,.string num,.string text,.slice none 0 0,.slice none 0 0]] u fun e w'=>∃ d:NV,e= .returned d.v∧Below u.heap.size u w'∧NdI D w' (cnP a (.mk k num text [] [])) d:=by
 go_in;go_wp2_with fail;refine bodyPost_ret (v:= .agg #[.int .i64 (2),.int .i64 (a:Int),.string ⟨#[]⟩,.int .i64 (k),.string num,.string text,.slice none 0 0,.slice none 0 0,.slice none 0 0,.slice none 0 0]) (by simp [results,Tryz.results257,go_sem]) rfl ?_;exact ⟨⟨2,(a:Int),k,⟨#[]⟩,num,text,none,none,none,none,0,0,0,0,0,0,0,0⟩,rfl,(q0a u _).alloc (by simp) _,NdI.cons_ D _ (a:Int) k num text h1 h2⟩
theorem varX (D:Nat→Prop) (x:Tok) (hx:x.text.length≤140737488355328) (u:World):Calls Tryz.prog 258 #[tokV x] u fun e w'=>∃ d:NV,e= .returned d.v∧Below u.heap.size u w'∧NdI D w' (varP x) d:=by
 obtain ⟨kd,pa,fi,tx,er⟩:=x;unfold tokV;dsimp only at hx ⊢;go_in;go_wp2_with fail;refine bodyPost_ret (v:= .agg #[.int .i64 (6),.int .i64 (pa:Int),.string ⟨tx.toArray⟩,.int .i64 (0),.string ⟨#[]⟩,.string ⟨#[]⟩,.slice none 0 0,.slice none 0 0,.slice none 0 0,.slice none 0 0]) (by simp [results,Tryz.results258,go_sem]) rfl ?_;exact ⟨⟨6,(pa:Int),0,⟨tx.toArray⟩,⟨#[]⟩,⟨#[]⟩,none,none,none,none,0,0,0,0,0,0,0,0⟩,rfl,(q0a u _).alloc (by simp) _,NdI.leaf D _ 6 (pa:Int) ⟨tx.toArray⟩ hx⟩
theorem saidX (D:Nat→Prop) (x:Tok) (hx:x.text.length≤140737488355328) (u:World):Calls Tryz.prog 251 #[tokV x] u fun e w'=>∃ d:NV,e= .returned d.v∧Below u.heap.size u w'∧NdI D w' (q0s x) d:=by
 obtain ⟨kd,pa,fi,tx,er⟩:=x;unfold tokV;dsimp only at hx ⊢;have HC:=hQz (fun u=>constX (fun _=>False) pa 4 ⟨#[]⟩ ⟨tx.toArray⟩ q0N hx u);go_in;go_wp2_with fail;refine (HC.out _).mono ?_;rintro e w1 ⟨d,rfl,hb,hd⟩;have hb':Below (u.heap.size+2) ((u.alloc (.cells #[.int .i64 (kd:Int),.int .i64 (pa:Int),.int .i64 (fi:Int),.string ⟨tx.toArray⟩] 82)).alloc (.cells #[.int .i64 0,.int .i64 0,.string ⟨#[]⟩,.int .i64 0,.string ⟨#[]⟩,.string ⟨#[]⟩,.slice none 0 0,.slice none 0 0,.slice none 0 0,.slice none 0 0] 28)) w1:=by simpa using hb
 have q1:w1.heap[u.heap.size+1]? =some (.cells #[.int .i64 0,.int .i64 0,.string ⟨#[]⟩,.int .i64 0,.string ⟨#[]⟩,.string ⟨#[]⟩,.slice none 0 0,.slice none 0 0,.slice none 0 0,.slice none 0 0] 28 (0,0)):=by
  have:=heap_alloc_new (u.alloc (.cells #[.int .i64 (kd:Int),.int .i64 (pa:Int),.int .i64 (fi:Int),.string ⟨tx.toArray⟩] 82)) (.cells #[.int .i64 0,.int .i64 0,.string ⟨#[]⟩,.int .i64 0,.string ⟨#[]⟩,.string ⟨#[]⟩,.slice none 0 0,.slice none 0 0,.slice none 0 0,.slice none 0 0] 28);rw [World.size_alloc] at this;exact (hb'.block _ (by omega)).trans this
 have hB:Below u.heap.size u w1:=((q0a u _).alloc (by simp) _).trans (hb'.mono (by omega));have HH:=hQz (And.intro hB (And.intro q1 (And.intro hd hb')));obtain ⟨n0,n1,n2,n3,n4,n5,n6,n7,n8,n9⟩:=q00 q1;obtain ⟨f0,f1,f2,f3,f4,f5,f6,f7,f8,f9⟩:=q03 q1;clear hb hb' hB hd q1;obtain ⟨op1,at1,vk1,tx1,nu1,vt1,io1,yo1,no1,ko1,iN1,ic1,yN1,yc1,nN1,nc1,kN1,kc1⟩:=d;unfold NV.v NV.l;dsimp only;go_wp2_with fail;generalize hzZ:((((((((((w1).setCell ⟨u.heap.size+1,0,none⟩ (.int .i64 op1)).setCell ⟨u.heap.size+1,1,none⟩ (.int .i64 at1)).setCell ⟨u.heap.size+1,2,none⟩ (.string tx1)).setCell ⟨u.heap.size+1,3,none⟩ (.int .i64 vk1)).setCell ⟨u.heap.size+1,4,none⟩ (.string nu1)).setCell ⟨u.heap.size+1,5,none⟩ (.string vt1)).setCell ⟨u.heap.size+1,6,none⟩ (.slice io1 iN1 ic1)).setCell ⟨u.heap.size+1,7,none⟩ (.slice yo1 yN1 yc1)).setCell ⟨u.heap.size+1,8,none⟩ (.slice no1 nN1 nc1)).setCell ⟨u.heap.size+1,9,none⟩ (.slice ko1 kN1 kc1)=WZ;have PZ:=q0J HH.out.2.1 hzZ;obtain ⟨m0,m1,m2,m3,m4,m5,m6,m7,m8,m9⟩:=q00 PZ.new;refine bodyPost_ret (v:= .agg #[.int .i64 op1,.int .i64 at1,.string tx1,.int .i64 vk1,.string nu1,.string vt1,.slice io1 iN1 ic1,.slice yo1 yN1 yc1,.slice no1 nN1 nc1,.slice ko1 kN1 kc1]) (by simp [results,Tryz.results251,go_sem,m0,m1,m2,m3,m4,m5,m6,m7,m8,m9]) rfl ?_;refine ⟨⟨op1,at1,vk1,tx1,nu1,vt1,io1,yo1,no1,ko1,iN1,ic1,yN1,yc1,nN1,nc1,kN1,kc1⟩,rfl,HH.out.1.trans (PZ.below (by omega)),?_⟩;obtain ⟨_,_,hd,_⟩:=HH.out;exact hd.keep (by rw [PZ.size];exact Nat.le_refl _) (fun b hb=>hb.elim) (fun b hb=>hb.elim)
theorem indexX (D:Nat→Prop) (a:Nat) (T1 T2:NT) (d1 d2:NV) (u:World) (dn:∀ b,u.heap.size≤b→D b) (h1:NdI D u T1 d1) (h2:NdI D u T2 d2):Calls Tryz.prog 250 #[.int .i64 (a:Int),d1.v,d2.v] u fun e w'=>∃ d:NV,e= .returned d.v∧Below u.heap.size u w'∧NdI D w' (idxP a T1 T2) d:=by
 have H1:=hQz h1;have H2:=hQz h2;clear h1 h2;obtain ⟨op1,at1,vk1,tx1,nu1,vt1,io1,yo1,no1,ko1,iN1,ic1,yN1,yc1,nN1,nc1,kN1,kc1⟩:=d1;obtain ⟨op2,at2,vk2,tx2,nu2,vt2,io2,yo2,no2,ko2,iN2,ic2,yN2,yc2,nN2,nc2,kN2,kc2⟩:=d2;unfold NV.v NV.l;dsimp only;go_in;go_wp2_with fail;generalize hzZ:(((u.alloc (.cells #[.int .i64 op1,.int .i64 at1,.string tx1,.int .i64 vk1,.string nu1,.string vt1,.slice io1 iN1 ic1,.slice yo1 yN1 yc1,.slice no1 nN1 nc1,.slice ko1 kN1 kc1] 28)).alloc (.cells #[.int .i64 op2,.int .i64 at2,.string tx2,.int .i64 vk2,.string nu2,.string vt2,.slice io2 iN2 ic2,.slice yo2 yN2 yc2,.slice no2 nN2 nc2,.slice ko2 kN2 kc2] 28)).alloc (.cells #[.int .i64 (7),.int .i64 (a:Int),.string ⟨#[]⟩,.int .i64 (0),.string ⟨#[]⟩,.string ⟨#[]⟩,.slice none 0 0,.slice none 0 0,.slice none 0 0,.slice (some ⟨u.heap.size+1+1+1,0,none⟩) 2 2] 28)).alloc (.cells #[.int .i64 op1,.int .i64 at1,.string tx1,.int .i64 vk1,.string nu1,.string vt1,.slice io1 iN1 ic1,.slice yo1 yN1 yc1,.slice no1 nN1 nc1,.slice ko1 kN1 kc1,.int .i64 op2,.int .i64 at2,.string tx2,.int .i64 vk2,.string nu2,.string vt2,.slice io2 iN2 ic2,.slice yo2 yN2 yc2,.slice no2 nN2 nc2,.slice ko2 kN2 kc2] 28)=WZ;have hB:Below u.heap.size u WZ:=by rw [← hzZ];exact (((q0a u _).alloc (by simp) _).alloc (by simp;omega) _).alloc (by simp;omega) _
 have hr:WZ.heap[u.heap.size+1+1+1]? =some (.cells (([⟨op1,at1,vk1,tx1,nu1,vt1,io1,yo1,no1,ko1,iN1,ic1,yN1,yc1,nN1,nc1,kN1,kc1⟩,⟨op2,at2,vk2,tx2,nu2,vt2,io2,yo2,no2,ko2,iN2,ic2,yN2,yc2,nN2,nc2,kN2,kc2⟩]:List NV).flatMap NV.l).toArray 28 (0,0)):=by
  rw [← hzZ];have:=heap_alloc_new (((u.alloc (.cells #[.int .i64 op1,.int .i64 at1,.string tx1,.int .i64 vk1,.string nu1,.string vt1,.slice io1 iN1 ic1,.slice yo1 yN1 yc1,.slice no1 nN1 nc1,.slice ko1 kN1 kc1] 28)).alloc (.cells #[.int .i64 op2,.int .i64 at2,.string tx2,.int .i64 vk2,.string nu2,.string vt2,.slice io2 iN2 ic2,.slice yo2 yN2 yc2,.slice no2 nN2 nc2,.slice ko2 kN2 kc2] 28)).alloc (.cells #[.int .i64 (7),.int .i64 (a:Int),.string ⟨#[]⟩,.int .i64 (0),.string ⟨#[]⟩,.string ⟨#[]⟩,.slice none 0 0,.slice none 0 0,.slice none 0 0,.slice (some ⟨u.heap.size+1+1+1,0,none⟩) 2 2] 28)) (.cells #[.int .i64 op1,.int .i64 at1,.string tx1,.int .i64 vk1,.string nu1,.string vt1,.slice io1 iN1 ic1,.slice yo1 yN1 yc1,.slice no1 nN1 nc1,.slice ko1 kN1 kc1,.int .i64 op2,.int .i64 at2,.string tx2,.int .i64 vk2,.string nu2,.string vt2,.slice io2 iN2 ic2,.slice yo2 yN2 yc2,.slice no2 nN2 nc2,.slice ko2 kN2 kc2] 28);simp only [World.size_alloc] at this;exact this
 refine bodyPost_ret (v:= .agg #[.int .i64 (7),.int .i64 (a:Int),.string ⟨#[]⟩,.int .i64 (0),.string ⟨#[]⟩,.string ⟨#[]⟩,.slice none 0 0,.slice none 0 0,.slice none 0 0,.slice (some ⟨u.heap.size+1+1+1,0,none⟩) 2 2]) (by simp [results,Tryz.results250,go_sem,← hzZ]) rfl ?_;have k1:=H1.out.keep hB.size (fun b _ hl=>hB.block b hl) (fun b h _=>h);have k2:=H2.out.keep hB.size (fun b _ hl=>hB.block b hl) (fun b h _=>h);exact ⟨⟨7,(a:Int),0,⟨#[]⟩,⟨#[]⟩,⟨#[]⟩,none,none,none,some ⟨u.heap.size+1+1+1,0,none⟩,0,0,0,0,0,0,2,2⟩,rfl,hB,NdI.lit (Ts:=[T1,T2]) 7 (a:Int) .empty q0N rfl (by show 2≤1000;omega) hr (dn _ (by omega)) (els2 k1 k2)⟩
theorem fieldX (D:Nat→Prop) (x:Tok) (hx:x.text.length≤140737488355328) (u:World) (dn:∀ b,u.heap.size≤b→D b):Calls Tryz.prog 256 #[tokV x] u fun e w'=>∃ d:NV,e= .returned d.v∧Below u.heap.size u w'∧NdI D w' (fldP x) d:=by
 have HS1:Hid (∀ W,Calls Tryz.prog 274 #[.int .i64 (x.at_:Int)] W fun e w'=>∃ d:NV,e= .returned d.v∧Below W.heap.size W w'∧NdI (fun _=>False) w' (q2s x.at_) d):=fun W=>selfX _ x.at_ W;have HS2:Hid (∀ W,Calls Tryz.prog 251 #[tokV x] W fun e w'=>∃ d:NV,e= .returned d.v∧Below W.heap.size W w'∧NdI (fun _=>False) w' (q0s x) d):=fun W=>saidX _ x hx W;have HS3:Hid (∀ W d1 d2 (dn:∀ b,W.heap.size≤b→D b∧b≠u.heap.size+1),NdI (fun b=>D b∧b≠u.heap.size+1) W (q2s x.at_) d1→NdI (fun b=>D b∧b≠u.heap.size+1) W (q0s x) d2→Calls Tryz.prog 250 #[.int .i64 (x.at_:Int),d1.v,d2.v] W fun e w'=>∃ d:NV,e= .returned d.v∧Below W.heap.size W w'∧NdI (fun b=>D b∧b≠u.heap.size+1) w' (fldP x) d):=fun W d1 d2 dn h1 h2=>indexX _ x.at_ _ _ d1 d2 W dn h1 h2;obtain ⟨kd,pa,fi,tx,er⟩:=x;unfold tokV at HS2;unfold tokV;generalize hF:fldP ⟨kd,pa,fi,tx,er⟩=F at *;generalize hG:q0s ⟨kd,pa,fi,tx,er⟩=G at *;dsimp only at *;generalize hH:q2s pa=H at *;have Hdn:=hQz dn;clear hF hG hH hx dn
 have HQ:Hid (∀ W,Below (u.heap.size+2) ((u.alloc (.cells #[.int .i64 (kd:Int),.int .i64 (pa:Int),.int .i64 (fi:Int),.string ⟨tx.toArray⟩] 82)).alloc (.cells #[.int .i64 0,.int .i64 0,.string ⟨#[]⟩,.int .i64 0,.string ⟨#[]⟩,.string ⟨#[]⟩,.slice none 0 0,.slice none 0 0,.slice none 0 0,.slice none 0 0] 28)) W→Below u.heap.size u W∧W.heap[u.heap.size]? =some (.cells #[.int .i64 (kd:Int),.int .i64 (pa:Int),.int .i64 (fi:Int),.string ⟨tx.toArray⟩] 82 (0,0))∧W.heap[u.heap.size+1]? =some (.cells #[.int .i64 0,.int .i64 0,.string ⟨#[]⟩,.int .i64 0,.string ⟨#[]⟩,.string ⟨#[]⟩,.slice none 0 0,.slice none 0 0,.slice none 0 0,.slice none 0 0] 28 (0,0))):=fun W hb=>by
  refine ⟨((q0a u _).alloc (by simp) _).trans (hb.mono (by omega)),(hb.block _ (by omega)).trans ((Below.heap_alloc _ _ _ (by simp)).trans (heap_alloc_new u _)),(hb.block _ (by omega)).trans ?_⟩;have:=heap_alloc_new (u.alloc (.cells #[.int .i64 (kd:Int),.int .i64 (pa:Int),.int .i64 (fi:Int),.string ⟨tx.toArray⟩] 82)) (.cells #[.int .i64 0,.int .i64 0,.string ⟨#[]⟩,.int .i64 0,.string ⟨#[]⟩,.string ⟨#[]⟩,.slice none 0 0,.slice none 0 0,.slice none 0 0,.slice none 0 0] 28);rwa [World.size_alloc] at this
 go_in;go_wp2_with fail;have HSz:Hid (∀ W,Below (u.heap.size+2) ((u.alloc (.cells #[.int .i64 (kd:Int),.int .i64 (pa:Int),.int .i64 (fi:Int),.string ⟨tx.toArray⟩] 82)).alloc (.cells #[.int .i64 0,.int .i64 0,.string ⟨#[]⟩,.int .i64 0,.string ⟨#[]⟩,.string ⟨#[]⟩,.slice none 0 0,.slice none 0 0,.slice none 0 0,.slice none 0 0] 28)) W→u.heap.size+2≤W.heap.size):=fun W hb=>by have:=hb.size;simpa using this
 generalize hzU:(u.alloc (.cells #[.int .i64 (kd:Int),.int .i64 (pa:Int),.int .i64 (fi:Int),.string ⟨tx.toArray⟩] 82)).alloc (.cells #[.int .i64 0,.int .i64 0,.string ⟨#[]⟩,.int .i64 0,.string ⟨#[]⟩,.string ⟨#[]⟩,.slice none 0 0,.slice none 0 0,.slice none 0 0,.slice none 0 0] 28)=U at *;have hJ:=(Below.refl (u.heap.size+2) U).drew;obtain ⟨hb0,q0,q1⟩:=HQ.out _ hJ;obtain ⟨c0,c1,c2,c3⟩:=q08 q0;have HJ:=hQz hJ;clear hJ q0 q1;refine wp_region_held_drew (S:=(fun u1=>u1.cell? ⟨u.heap.size,0,none⟩=some (.int .i64 (kd:Int))∧u1.cell? ⟨u.heap.size,1,none⟩=some (.int .i64 (pa:Int))∧u1.cell? ⟨u.heap.size,2,none⟩=some (.int .i64 (fi:Int))∧u1.cell? ⟨u.heap.size,3,none⟩=some (.string ⟨tx.toArray⟩))) (by kernel_rfl) (by exact ⟨c0,c1,c2,c3⟩) (fun hHeld=> ?_);clear c0 c1 c2 c3;refine wpAnyH_take (i:=0) (oi:=_) (v:= .pointer (some ⟨u.heap.size,1,none⟩)) rfl (by kernel_rfl) (by kernel_rfl) (by kernel_rfl) (fun _ _ _ h=>h) (.inl ⟨by rfl,?_⟩) (by assumption) ?_
 · intro w hSw;go_simp
   try (intro hq;exfalso;omega)
 try simp only [Act.put,qsA,qsB,qsC]
 refine wpAnyH_take (i:=1) (oi:=_) (v:= .int .i64 (pa:Int)) rfl (by kernel_rfl) (by kernel_rfl) (by kernel_rfl) (fun _ _ _ h=>h) (.inl ⟨by rfl,?_⟩) (by assumption) ?_
 · intro w hSw;obtain ⟨hs0,hs1,hs2,hs3⟩:=hSw;go_simp
   try (intro hq;exfalso;omega)
 try simp only [Act.put,qsA,qsB,qsC]
 refine wpAnyH_take (i:=2) (oi:=_) (v:= .pointer (some ⟨u.heap.size,1,none⟩)) rfl (by kernel_rfl) (by kernel_rfl) (by kernel_rfl) (fun _ _ _ h=>h) (.inl ⟨by rfl,?_⟩) (by assumption) ?_
 · intro w hSw;go_simp
   try (intro hq;exfalso;omega)
 try simp only [Act.put,qsA,qsB,qsC]
 refine wpAnyH_take (i:=3) (oi:=_) (v:= .int .i64 (pa:Int)) rfl (by kernel_rfl) (by kernel_rfl) (by kernel_rfl) (fun _ _ _ h=>h) (.inl ⟨by rfl,?_⟩) (by assumption) ?_
 · intro w hSw;obtain ⟨hs0,hs1,hs2,hs3⟩:=hSw;go_simp
   try (intro hq;exfalso;omega)
 try simp only [Act.put,qsA,qsB,qsC]
 refine wpAnyH_take (i:=5) (oi:=_) (v:= .agg #[.int .i64 (kd:Int),.int .i64 (pa:Int),.int .i64 (fi:Int),.string ⟨tx.toArray⟩]) rfl (by kernel_rfl) (by kernel_rfl) (by kernel_rfl) (fun _ _ _ h=>h) (.inl ⟨by rfl,?_⟩) (by assumption) ?_
 · intro w hSw;obtain ⟨hs0,hs1,hs2,hs3⟩:=hSw;go_simp
   try (intro hq;exfalso;omega)
 try simp only [Act.put,qsA,qsB,qsC]
 refine wpAnyH_ready (rs:=[4]) (by kernel_rfl) (by simp) ?_;refine AllReadyH.cons (o:=_) rfl (fun K2 hK2=> ?_) AllReadyH.nil;go_simp;go_at_call 274;refine (HS1.out _).mono ?_;rintro e w1 ⟨d1,rfl,hb,hd⟩;have hJ:=HJ.out.trans (hb.mono (HSz.out _ HJ.out));obtain ⟨hB,q0,q1⟩:=HQ.out _ hJ;obtain ⟨c0,c1,c2,c3⟩:=q08 q0;have HD1:=hQz hd;have HB1:=hQz hb;have HJn:=hQz hJ;clear HJ;have HJ:=HJn;clear HJn hJ hb hd;obtain ⟨op1,at1,vk1,tx1,nu1,vt1,io1,yo1,no1,ko1,iN1,ic1,yN1,yc1,nN1,nc1,kN1,kc1⟩:=d1;unfold NV.v NV.l;dsimp only;clear hB q0 q1;go_wp2_with fail;refine hK2.out _ _ (by exact ⟨c0,c1,c2,c3⟩) (fun hHeld=> ?_);clear hK2 K2
 try simp only [Act.put,qsA,qsB,qsC]
 clear c0 c1 c2 c3;refine wpAnyH_ready (rs:=[6]) (by kernel_rfl) (by simp) ?_;refine AllReadyH.cons (o:=_) rfl (fun K2 hK2=> ?_) AllReadyH.nil;go_simp;go_at_call 251;refine (HS2.out _).mono ?_;rintro e w2 ⟨d2,rfl,hb,hd⟩;have hJ:=HJ.out.trans (hb.mono (HSz.out _ HJ.out));obtain ⟨hB,q0,q1⟩:=HQ.out _ hJ;obtain ⟨c0,c1,c2,c3⟩:=q08 q0;have HD2:=hQz hd;have HB2:=hQz hb;have HJn:=hQz hJ;clear HJ;have HJ:=HJn;clear HJn hJ hb hd;obtain ⟨op2,at2,vk2,tx2,nu2,vt2,io2,yo2,no2,ko2,iN2,ic2,yN2,yc2,nN2,nc2,kN2,kc2⟩:=d2;unfold NV.v NV.l;dsimp only;clear hB q0 q1;go_wp2_with fail;refine hK2.out _ _ (by exact ⟨c0,c1,c2,c3⟩) (fun hHeld=> ?_);clear hK2 K2
 try simp only [Act.put,qsA,qsB,qsC]
 clear c0 c1 c2 c3;refine wpAnyH_ready (rs:=[7]) (by kernel_rfl) (by simp) ?_;refine AllReadyH.cons (o:=_) rfl (fun K2 hK2=> ?_) AllReadyH.nil;go_simp;go_at_call 250;refine (HS3.out _ ⟨op1,at1,vk1,tx1,nu1,vt1,io1,yo1,no1,ko1,iN1,ic1,yN1,yc1,nN1,nc1,kN1,kc1⟩ ⟨op2,at2,vk2,tx2,nu2,vt2,io2,yo2,no2,ko2,iN2,ic2,yN2,yc2,nN2,nc2,kN2,kc2⟩ (fun b hb=>⟨Hdn.out b (Nat.le_trans (HQ.out _ HJ.out).1.size hb),by have:=HSz.out _ HJ.out;omega⟩) (HD1.out.keep HB2.out.size (fun b hb=>hb.elim) (fun b hb=>hb.elim)) (HD2.out.weak (fun b hb=>hb.elim))).mono ?_;rintro e w3 ⟨d3,rfl,hb,hd⟩;have hJ:=HJ.out.trans (hb.mono (HSz.out _ HJ.out));obtain ⟨hB,q0,q1⟩:=HQ.out _ hJ;obtain ⟨c0,c1,c2,c3⟩:=q08 q0;obtain ⟨n0,n1,n2,n3,n4,n5,n6,n7,n8,n9⟩:=q00 q1;obtain ⟨f0,f1,f2,f3,f4,f5,f6,f7,f8,f9⟩:=q03 q1;have HD3:=hQz hd;have HW3:=hQz (And.intro hB (And.intro q0 q1));clear HJ hJ hb hd hB q0 q1;obtain ⟨op3,at3,vk3,tx3,nu3,vt3,io3,yo3,no3,ko3,iN3,ic3,yN3,yc3,nN3,nc3,kN3,kc3⟩:=d3;unfold NV.v NV.l;dsimp only;go_wp2_with fail;refine hK2.out _ _ (by exact ⟨c0,c1,c2,c3⟩) (fun hHeld=> ?_);clear hK2 K2
 try simp only [Act.put,qsA,qsB,qsC]
 clear c0 c1 c2 c3;refine wpAnyH_ready (rs:=[8]) (by kernel_rfl) (by simp) ?_;refine AllReadyH.cons (o:=_) rfl (fun K2 hK2=> ?_) AllReadyH.nil;go_simp;generalize hzZ:((((((((((w3).setCell ⟨u.heap.size+1,0,none⟩ (.int .i64 op3)).setCell ⟨u.heap.size+1,1,none⟩ (.int .i64 at3)).setCell ⟨u.heap.size+1,2,none⟩ (.string tx3)).setCell ⟨u.heap.size+1,3,none⟩ (.int .i64 vk3)).setCell ⟨u.heap.size+1,4,none⟩ (.string nu3)).setCell ⟨u.heap.size+1,5,none⟩ (.string vt3)).setCell ⟨u.heap.size+1,6,none⟩ (.slice io3 iN3 ic3)).setCell ⟨u.heap.size+1,7,none⟩ (.slice yo3 yN3 yc3)).setCell ⟨u.heap.size+1,8,none⟩ (.slice no3 nN3 nc3)).setCell ⟨u.heap.size+1,9,none⟩ (.slice ko3 kN3 kc3)=WZ;have PZ:=q0J HW3.out.2.2 hzZ;obtain ⟨m0,m1,m2,m3,m4,m5,m6,m7,m8,m9⟩:=q00 PZ.new;obtain ⟨c0,c1,c2,c3⟩:=q08 ((PZ.rest u.heap.size (by omega)).trans HW3.out.2.1);have HPZ:=hQz PZ;clear PZ hzZ;go_wp2_with fail;refine hK2.out _ _ (by exact ⟨c0,c1,c2,c3⟩) (fun hHeld=> ?_);clear hK2 K2
 try simp only [Act.put,qsA,qsB,qsC]
 refine wpAnyH_done (by kernel_rfl) ?_ _;clear hHeld;go_wp2_with fail;refine bodyPost_ret (v:= .agg #[.int .i64 op3,.int .i64 at3,.string tx3,.int .i64 vk3,.string nu3,.string vt3,.slice io3 iN3 ic3,.slice yo3 yN3 yc3,.slice no3 nN3 nc3,.slice ko3 kN3 kc3]) (by simp [results,Tryz.results256,go_sem,m0,m1,m2,m3,m4,m5,m6,m7,m8,m9]) rfl ?_;refine ⟨⟨op3,at3,vk3,tx3,nu3,vt3,io3,yo3,no3,ko3,iN3,ic3,yN3,yc3,nN3,nc3,kN3,kc3⟩,rfl,HW3.out.1.trans (HPZ.out.below (by omega)),?_⟩;exact HD3.out.keep (by rw [HPZ.out.size];exact Nat.le_refl _) (fun b hb _=>HPZ.out.rest b hb.2) (fun b hb _=>hb.1)
end Go.Proofs.YtdjleoglphgdgaaGreatDoor
