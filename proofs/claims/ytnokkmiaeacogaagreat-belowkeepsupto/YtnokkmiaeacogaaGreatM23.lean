import Derived.Test.YtnokkmiaeacogaaGreatM17
import Derived.Test.YtnokkmiaeacogaaGreatM20
import Derived.Test.YtnokkmiaeacogaaGreatM18
set_option linter.unusedVariables false
set_option linter.unusedSimpArgs false
namespace Go.Proofs.YtnokkmiaeacogaaGreat
open Go.RowKit
set_option maxRecDepth 100000
set_option maxHeartbeats 12800000
def KL (D:Nat→Prop) (W:World) (ko:Option Addr) (keys:List ByteArray):Prop:=0<keys.length→∃ b off,ko=some ⟨b,off,none⟩∧D b∧b<W.heap.size∧∀ i,i<keys.length→W.cell? ⟨b,off+i,none⟩=some (.string (keys.getD i .empty))
def SpL (D:Nat→Prop) (W:World) (io:Option Addr) (ps:List (ByteArray × ByteArray)):Prop:=0<ps.length→∃ b off,io=some ⟨b,off,none⟩∧D b∧b<W.heap.size∧∀ i,(hi:i<ps.length)→W.cell? ⟨b,off+i*2,none⟩=some (.string ps[i].1)∧W.cell? ⟨b,off+i*2+1,none⟩=some (.string ps[i].2)
def BoL (D:Nat→Prop) (W:World) (io:Option Addr) (bs:List Bool):Prop:=0<bs.length→∃ b off,io=some ⟨b,off,none⟩∧D b∧b<W.heap.size∧∀ i,(hi:i<bs.length)→W.cell? ⟨b,off+i,none⟩=some (.bool bs[i])
def InTL (D:Nat→Prop) (W:World):Nat→TT→Value→Prop
 | 0,_,_=>False
 | h+1,T,v=>∃ (no:Option Addr) (nc:Nat) (xo:Option Addr) (xc:Nat) (ao:Option Addr) (ac:Nat) (oo:Option Addr) (oc:Nat),
    v= .agg #[.bool T.all,.bool T.nul,.bool T.fls,.bool T.tru,.slice no T.nums.length nc,.bool T.any,.slice xo T.texts.length xc,.slice ao T.arrs.length ac,.slice oo T.objs.length oc]∧
    (T.nums.length≤nc∧T.texts.length≤xc∧T.arrs.length≤ac∧T.objs.length≤oc)∧
    (T.nums.length≤140737488355328∧T.texts.length≤140737488355328∧T.arrs.length≤140737488355328∧T.objs.length≤140737488355328)∧
    (∀ p∈T.nums,p.1.size≤140737488355328∧p.2.size≤140737488355328)∧(∀ k∈T.texts,k.size≤140737488355328)∧
    SpL D W no T.nums∧KL D W xo T.texts∧
    (0<T.arrs.length→∃ b off,ao=some ⟨b,off,none⟩∧D b∧b<W.heap.size∧∀ i,(hi:i<T.arrs.length)→∃ c0 c1 c2 c3 c4 c5 c6 c7 c8:Value,
     C9 W b (off+i*11) c0 c1 c2 c3 c4 c5 c6 c7 c8∧W.cell? ⟨b,off+i*11+9,none⟩=some (.int .i64 T.arrs[i].min)∧W.cell? ⟨b,off+i*11+10,none⟩=some (.int .i64 T.arrs[i].max)∧
     InTL D W h T.arrs[i].item (.agg #[c0,c1,c2,c3,c4,c5,c6,c7,c8]))∧
    (0<T.objs.length→∃ b off,oo=some ⟨b,off,none⟩∧D b∧b<W.heap.size∧∀ i,(hi:i<T.objs.length)→∃ (ko:Option Addr) (kc:Nat) (fo:Option Addr) (fc:Nat) (mo:Option Addr) (mc:Nat) (c0 c1 c2 c3 c4 c5 c6 c7 c8:Value),
     (W.cell? ⟨b,off+i*12,none⟩=some (.slice ko T.objs[i].names.length kc)∧W.cell? ⟨b,off+i*12+1,none⟩=some (.slice fo T.objs[i].fields.length fc)∧W.cell? ⟨b,off+i*12+2,none⟩=some (.slice mo T.objs[i].must.length mc))∧
     C9 W b (off+i*12+3) c0 c1 c2 c3 c4 c5 c6 c7 c8∧
     (T.objs[i].names.length≤kc∧T.objs[i].fields.length≤fc∧T.objs[i].must.length≤mc)∧
     (T.objs[i].names.length≤140737488355328∧T.objs[i].fields.length≤140737488355328∧T.objs[i].must.length≤140737488355328∧∀ k∈T.objs[i].names,k.size≤140737488355328)∧
     KL D W ko T.objs[i].names∧BoL D W mo T.objs[i].must∧
     (0<T.objs[i].fields.length→∃ b2 off2,fo=some ⟨b2,off2,none⟩∧D b2∧b2<W.heap.size∧∀ j,(hj:j<T.objs[i].fields.length)→∃ d0 d1 d2 d3 d4 d5 d6 d7 d8:Value,
      C9 W b2 (off2+j*9) d0 d1 d2 d3 d4 d5 d6 d7 d8∧InTL D W h T.objs[i].fields[j] (.agg #[d0,d1,d2,d3,d4,d5,d6,d7,d8]))∧
     InTL D W h T.objs[i].rest (.agg #[c0,c1,c2,c3,c4,c5,c6,c7,c8]))
section
variable {D D':Nat→Prop} {W W':World} (hz:W.heap.size≤W'.heap.size) (hs:∀ b,D b→b<W.heap.size→W'.heap[b]? =W.heap[b]?) (hd:∀ b,D b→b<W.heap.size→D' b)
include hs in
theorem q0m {b o:Nat} {u:Value} (h1:D b) (h2:b<W.heap.size) (h3:W.cell? ⟨b,o,none⟩=some u):W'.cell? ⟨b,o,none⟩=some u:=(World.cell?_of_block (a:=⟨b,o,none⟩) (hs b h1 h2)).trans h3
include hs in
theorem c9L {b o:Nat} {c0 c1 c2 c3 c4 c5 c6 c7 c8:Value} (h1:D b) (h2:b<W.heap.size) (h:C9 W b o c0 c1 c2 c3 c4 c5 c6 c7 c8):C9 W' b o c0 c1 c2 c3 c4 c5 c6 c7 c8:=
 ⟨q0m hs h1 h2 h.c0,q0m hs h1 h2 h.c1,q0m hs h1 h2 h.c2,q0m hs h1 h2 h.c3,q0m hs h1 h2 h.c4,q0m hs h1 h2 h.c5,q0m hs h1 h2 h.c6,q0m hs h1 h2 h.c7,q0m hs h1 h2 h.c8⟩
include hz hs hd
theorem KL.keep {ko:Option Addr} {keys:List ByteArray} (h:KL D W ko keys):KL D' W' ko keys:=fun h0=>by
 obtain ⟨b,off,e,h1,h2,h3⟩:=h h0;exact ⟨b,off,e,hd b h1 h2,by omega,fun i hi=>q0m hs h1 h2 (h3 i hi)⟩
theorem SpL.keep {io:Option Addr} {ps:List (ByteArray × ByteArray)} (h:SpL D W io ps):SpL D' W' io ps:=fun h0=>by
 obtain ⟨b,off,e,h1,h2,h3⟩:=h h0;exact ⟨b,off,e,hd b h1 h2,by omega,fun i hi=>⟨q0m hs h1 h2 (h3 i hi).1,q0m hs h1 h2 (h3 i hi).2⟩⟩
theorem BoL.keep {io:Option Addr} {bs:List Bool} (h:BoL D W io bs):BoL D' W' io bs:=fun h0=>by
 obtain ⟨b,off,e,h1,h2,h3⟩:=h h0;exact ⟨b,off,e,hd b h1 h2,by omega,fun i hi=>q0m hs h1 h2 (h3 i hi)⟩
theorem InTL.keep:∀ {h:Nat} {T:TT} {v:Value},InTL D W h T v→InTL D' W' h T v
 | 0,_,_,h=>h
 | h+1,T,v,hI=>by
  obtain ⟨no,nc,xo,xc,ao,ac,oo,oc,e,a1,a2,a3,a4,hsp,hk,ha,ho⟩:=hI;refine ⟨no,nc,xo,xc,ao,ac,oo,oc,e,a1,a2,a3,a4,hsp.keep hz hs hd,hk.keep hz hs hd,fun h0=> ?_,fun h0=> ?_⟩
  · obtain ⟨b,off,e2,hb,hl,hc⟩:=ha h0;refine ⟨b,off,e2,hd b hb hl,by omega,fun i hi=> ?_⟩;obtain ⟨c0,c1,c2,c3,c4,c5,c6,c7,c8,h1,h2,h3,h4⟩:=hc i hi;exact ⟨c0,c1,c2,c3,c4,c5,c6,c7,c8,c9L hs hb hl h1,q0m hs hb hl h2,q0m hs hb hl h3,InTL.keep h4⟩
  · obtain ⟨b,off,e2,hb,hl,hc⟩:=ho h0;refine ⟨b,off,e2,hd b hb hl,by omega,fun i hi=> ?_⟩;obtain ⟨ko,kc,fo,fc,mo,mc,c0,c1,c2,c3,c4,c5,c6,c7,c8,⟨g1,g2,g3⟩,h1,h2,h3,h4,h5,h6,h7⟩:=hc i hi;refine ⟨ko,kc,fo,fc,mo,mc,c0,c1,c2,c3,c4,c5,c6,c7,c8,⟨q0m hs hb hl g1,q0m hs hb hl g2,q0m hs hb hl g3⟩,c9L hs hb hl h1,h2,h3,h4.keep hz hs hd,h5.keep hz hs hd,fun hf=> ?_,InTL.keep h7⟩;obtain ⟨b2,off2,e3,hb2,hl2,hdd⟩:=h6 hf;refine ⟨b2,off2,e3,hd b2 hb2 hl2,by omega,fun j hj=> ?_⟩;obtain ⟨d0,d1,d2,d3,d4,d5,d6,d7,d8,k1,k2⟩:=hdd j hj;exact ⟨d0,d1,d2,d3,d4,d5,d6,d7,d8,c9L hs hb2 hl2 k1,InTL.keep k2⟩
end
theorem KL.toIn {D:Nat→Prop} {W:World} {ko:Option Addr} {keys:List ByteArray} (h:KL D W ko keys):KIn W ko keys:=⟨fun h0=>by
 obtain ⟨b,off,e,_,h2,h3⟩:=h h0;exact ⟨b,off,e,h2,h3⟩⟩
theorem SpL.toIn {D:Nat→Prop} {W:World} {io:Option Addr} {ps:List (ByteArray × ByteArray)} (h:SpL D W io ps):SpIn W io ps:=⟨fun h0=>by
 obtain ⟨b,off,e,_,h2,h3⟩:=h h0;exact ⟨b,off,e,h2,h3⟩⟩
theorem BoL.toIn {D:Nat→Prop} {W:World} {io:Option Addr} {bs:List Bool} (h:BoL D W io bs):BoIn W io bs:=⟨fun h0=>by
 obtain ⟨b,off,e,_,h2,h3⟩:=h h0;exact ⟨b,off,e,h2,h3⟩⟩
theorem InTL.toT {D:Nat→Prop} {W:World}:∀ {h:Nat} {T:TT} {v:Value},InTL D W h T v→InT W h T v
 | 0,_,_,h=>h
 | h+1,T,v,hI=>by
  obtain ⟨no,nc,xo,xc,ao,ac,oo,oc,e,a1,a2,a3,a4,hsp,hk,ha,ho⟩:=hI;refine ⟨no,nc,xo,xc,ao,ac,oo,oc,e,a1,a2,a3,a4,hsp.toIn,hk.toIn,fun h0=> ?_,fun h0=> ?_⟩
  · obtain ⟨b,off,e2,hb,hl,hc⟩:=ha h0;refine ⟨b,off,e2,hl,fun i hi=> ?_⟩;obtain ⟨c0,c1,c2,c3,c4,c5,c6,c7,c8,h1,h2,h3,h4⟩:=hc i hi;exact ⟨c0,c1,c2,c3,c4,c5,c6,c7,c8,h1,h2,h3,InTL.toT h4⟩
  · obtain ⟨b,off,e2,hb,hl,hc⟩:=ho h0;refine ⟨b,off,e2,hl,fun i hi=> ?_⟩;obtain ⟨ko,kc,fo,fc,mo,mc,c0,c1,c2,c3,c4,c5,c6,c7,c8,g,h1,h2,h3,h4,h5,h6,h7⟩:=hc i hi;refine ⟨ko,kc,fo,fc,mo,mc,c0,c1,c2,c3,c4,c5,c6,c7,c8,g,h1,h2,h3,h4.toIn,h5.toIn,fun hf=> ?_,InTL.toT h7⟩;obtain ⟨b2,off2,e3,hb2,hl2,hdd⟩:=h6 hf;refine ⟨b2,off2,e3,hl2,fun j hj=> ?_⟩;obtain ⟨d0,d1,d2,d3,d4,d5,d6,d7,d8,k1,k2⟩:=hdd j hj;exact ⟨d0,d1,d2,d3,d4,d5,d6,d7,d8,k1,InTL.toT k2⟩
def ESpan (ps:List (ByteArray × ByteArray)):(Nat→Prop)→World→Nat→List Value→Prop:=fun _ _ i cs=>∃ hi:i<ps.length,cs=[.string (ps[i]'hi).1,.string (ps[i]'hi).2]
def EType (h:Nat) (ts:List TT):(Nat→Prop)→World→Nat→List Value→Prop:=fun D W i cs=>∃ hi:i<ts.length,∃ c0 c1 c2 c3 c4 c5 c6 c7 c8:Value,cs=[c0,c1,c2,c3,c4,c5,c6,c7,c8]∧InTL D W h (ts[i]'hi) (.agg #[c0,c1,c2,c3,c4,c5,c6,c7,c8])
def EArr (h:Nat) (as_:List AR):(Nat→Prop)→World→Nat→List Value→Prop:=fun D W i cs=>∃ hi:i<as_.length,∃ c0 c1 c2 c3 c4 c5 c6 c7 c8:Value,cs=[c0,c1,c2,c3,c4,c5,c6,c7,c8,.int .i64 (as_[i]'hi).min,.int .i64 (as_[i]'hi).max]∧InTL D W h (as_[i]'hi).item (.agg #[c0,c1,c2,c3,c4,c5,c6,c7,c8])
def ObL (D:Nat→Prop) (W:World) (h:Nat) (o:OB) (ko:Option Addr) (kc:Nat) (fo:Option Addr) (fc:Nat) (mo:Option Addr) (mc:Nat) (r:Value):Prop:=
 (o.names.length≤kc∧o.fields.length≤fc∧o.must.length≤mc)∧
 (o.names.length≤140737488355328∧o.fields.length≤140737488355328∧o.must.length≤140737488355328∧∀ k∈o.names,k.size≤140737488355328)∧
 KL D W ko o.names∧BoL D W mo o.must∧
 (0<o.fields.length→∃ b2 off2,fo=some ⟨b2,off2,none⟩∧D b2∧b2<W.heap.size∧∀ j,(hj:j<o.fields.length)→∃ d0 d1 d2 d3 d4 d5 d6 d7 d8:Value,
  C9 W b2 (off2+j*9) d0 d1 d2 d3 d4 d5 d6 d7 d8∧InTL D W h o.fields[j] (.agg #[d0,d1,d2,d3,d4,d5,d6,d7,d8]))∧
 InTL D W h o.rest r
def EObj (h:Nat) (os:List OB):(Nat→Prop)→World→Nat→List Value→Prop:=fun D W i cs=>∃ hi:i<os.length,∃ (ko:Option Addr) (kc:Nat) (fo:Option Addr) (fc:Nat) (mo:Option Addr) (mc:Nat) (c0 c1 c2 c3 c4 c5 c6 c7 c8:Value),cs=[.slice ko (os[i]'hi).names.length kc,.slice fo (os[i]'hi).fields.length fc,.slice mo (os[i]'hi).must.length mc,c0,c1,c2,c3,c4,c5,c6,c7,c8]∧ObL D W h (os[i]'hi) ko kc fo fc mo mc (.agg #[c0,c1,c2,c3,c4,c5,c6,c7,c8])
theorem ESpan_keep (ps:List (ByteArray × ByteArray)):q0t (ESpan ps):=fun _ _ _ _ _ _ _ _ _ h=>h
theorem EType_keep (h:Nat) (ts:List TT):q0t (EType h ts):=fun D D' W W' i cs hz hs hd ⟨hi,c0,c1,c2,c3,c4,c5,c6,c7,c8,e,hI⟩=>⟨hi,c0,c1,c2,c3,c4,c5,c6,c7,c8,e,hI.keep hz hs hd⟩
theorem EArr_keep (h:Nat) (as_:List AR):q0t (EArr h as_):=fun D D' W W' i cs hz hs hd ⟨hi,c0,c1,c2,c3,c4,c5,c6,c7,c8,e,hI⟩=>⟨hi,c0,c1,c2,c3,c4,c5,c6,c7,c8,e,hI.keep hz hs hd⟩
theorem ObL.keep {D D':Nat→Prop} {W W':World} (hz:W.heap.size≤W'.heap.size) (hs:∀ b,D b→b<W.heap.size→W'.heap[b]? =W.heap[b]?) (hd:∀ b,D b→b<W.heap.size→D' b) {h:Nat} {o:OB} {ko:Option Addr} {kc:Nat} {fo:Option Addr} {fc:Nat} {mo:Option Addr} {mc:Nat} {r:Value} (hO:ObL D W h o ko kc fo fc mo mc r):ObL D' W' h o ko kc fo fc mo mc r:=by
 obtain ⟨h2,h3,h4,h5,h6,h7⟩:=hO;refine ⟨h2,h3,h4.keep hz hs hd,h5.keep hz hs hd,fun hf=> ?_,h7.keep hz hs hd⟩;obtain ⟨b2,off2,e3,hb2,hl2,hdd⟩:=h6 hf;refine ⟨b2,off2,e3,hd b2 hb2 hl2,by omega,fun j hj=> ?_⟩;obtain ⟨d0,d1,d2,d3,d4,d5,d6,d7,d8,k1,k2⟩:=hdd j hj;exact ⟨d0,d1,d2,d3,d4,d5,d6,d7,d8,c9L hs hb2 hl2 k1,k2.keep hz hs hd⟩
theorem EObj_keep (h:Nat) (os:List OB):q0t (EObj h os):=fun D D' W W' i cs hz hs hd ⟨hi,ko,kc,fo,fc,mo,mc,c0,c1,c2,c3,c4,c5,c6,c7,c8,e,hO⟩=>⟨hi,ko,kc,fo,fc,mo,mc,c0,c1,c2,c3,c4,c5,c6,c7,c8,e,hO.keep hz hs hd⟩
def ltW:Nat→TT→Nat
 | 0,_=>0
 | h+1,T=>4+sumF (fun i=>((T.arrs[i]?).map fun a=>ltW h a.item).getD 0) T.arrs.length+sumF (fun i=>((T.objs[i]?).map fun o=>3+ltW h o.rest+sumF (fun k=>((o.fields[k]?).map (ltW h)).getD 0) o.fields.length).getD 0) T.objs.length
structure KpLt (m B:Nat) (c c':Nat→Value) (w w':World):Prop where
 os:w'.os=w.os
 tape:w'.tape=w.tape
 output:w'.output=w.output
 size:w.heap.size≤w'.heap.size
 block:∀ b,b<m→b≠B→(∀ j,(c j).ownBlock≠some b)→w'.heap[b]? =w.heap[b]?
 row:∀ j,(c' j).ownBlock=(c j).ownBlock∨∀ g,(c' j).ownBlock=some g→m≤g
theorem KpLt.trans {m B:Nat} {c c1 c2:Nat→Value} {w w1 w2:World} (h:KpLt m B c c1 w w1) (k:KpLt m B c1 c2 w1 w2):KpLt m B c c2 w w2:=by
 refine ⟨k.os.trans h.os,k.tape.trans h.tape,k.output.trans h.output,Nat.le_trans h.size k.size,fun b hb h1 h2=> ?_,fun j=> ?_⟩
 · refine (k.block b hb h1 (fun j e=> ?_)).trans (h.block b hb h1 h2);rcases h.row j with r|r
   · exact h2 j (r▸e)
   · have:=r b e;omega
 · rcases k.row j with r|r
   · rcases h.row j with r2|r2
     · exact .inl (r.trans r2)
     · exact .inr (fun g e=>r2 g (r▸e))
   · exact .inr r
theorem KpL.toT {m B:Nat} {c c':Nat→Value} {w w':World} (h:KpL B c c' w w') (hm:m≤w.heap.size):KpLt m B c c' w w':=⟨h.os,h.tape,h.output,h.size,fun b hb=>h.block b (Nat.lt_of_lt_of_le hb hm),fun j=>(h.row j).imp id (fun r g e=>Nat.le_trans hm (r g e))⟩
theorem KpLt.toL {B:Nat} {c c':Nat→Value} {w w':World} (h:KpLt w.heap.size B c c' w w'):KpL B c c' w w':=⟨h.os,h.tape,h.output,h.size,h.block,h.row⟩
theorem KpLt.low {m B:Nat} {c:Nat→Value} {w w':World} (hb:Below m w w'):KpLt m B c c w w':=⟨hb.os,hb.tape,hb.output,hb.size,fun b h1 _ _=>hb.block b h1,fun _=> .inl rfl⟩
structure BxS (B:Nat) (c c':Nat→Value) (Dm D':Nat→Prop) (n':Nat→Nat) (w u:World) (t:TypeId) (xs zs cs:Array Value):Prop where
 loan:LtAt B u c' n' D'
 kp:KpLt w.heap.size B c c' w u
 bel:Below B w u
 fr:∀ b,D' b→Dm b∨w.heap.size+3≤b
 rows:∀ j q,w.heap.size≤q→q<w.heap.size+3→(c' j).ownBlock≠some q
 dm:∀ b,Dm b→b<w.heap.size
 bl:B<w.heap.size
 size:w.heap.size+3≤u.heap.size
 x:u.heap[w.heap.size]? =some (.cells xs t (0,0))
 z:u.heap[w.heap.size+1]? =some (.cells zs t (0,0))
 c_:u.heap[w.heap.size+1+1]? =some (.cells cs t (0,0))
theorem boxes3T (w:World) (o1 o2 o3:Obj):(((w.alloc o1).alloc o2).alloc o3).heap[w.heap.size]? =some o1∧(((w.alloc o1).alloc o2).alloc o3).heap[w.heap.size+1]? =some o2∧(((w.alloc o1).alloc o2).alloc o3).heap[w.heap.size+1+1]? =some o3∧(((w.alloc o1).alloc o2).alloc o3).heap.size=w.heap.size+3∧Below w.heap.size w (((w.alloc o1).alloc o2).alloc o3):=by
 refine ⟨?_,?_,?_,by simp,(((q05 w o1).trans ((q05 (w.alloc o1) o2).mono (by simp))).trans ((q05 ((w.alloc o1).alloc o2) o3).mono (by simp;omega)))⟩
 · rw [Below.heap_alloc _ _ _ (by simp;omega),Below.heap_alloc _ _ _ (by simp),heap_alloc_new]
 · rw [Below.heap_alloc _ _ _ (by simp),show w.heap.size+1=(w.alloc o1).heap.size from by simp,heap_alloc_new]
 · rw [show w.heap.size+1+1=((w.alloc o1).alloc o2).heap.size from by simp,heap_alloc_new]
theorem BxS.start {B:Nat} {c:Nat→Value} {n:Nat→Nat} {Dm:Nat→Prop} {w W3:World} {t:TypeId} {xs zs:Array Value} (h:LtAt B w c n Dm) (hW:((w.alloc (.cells xs t)).alloc (.cells zs t)).alloc (.cells xs t)=W3):BxS B c c Dm Dm n w W3 t xs zs xs:=by
 obtain ⟨x0,x1,x2,x3,x4⟩:=boxes3T w (.cells xs t) (.cells zs t) (.cells xs t);rw [hW] at x0 x1 x2 x3 x4;exact ⟨h.keep x4,KpLt.low x4,x4.mono (Nat.le_of_lt h.lt),fun b hb=> .inl hb,fun j q h1 h2 e=>by have:=(h.base e).2;omega,fun b hb=>(h.dom b hb).1,h.lt,by omega,x0,x1,x2⟩
theorem BxS.step {B:Nat} {c c1 c2:Nat→Value} {Dm D1 D2:Nat→Prop} {n1 n2:Nat→Nat} {w u v u':World} {t:TypeId} {xs zs cs cs':Array Value} (H:BxS B c c1 Dm D1 n1 w u t xs zs cs) (hl:LtAt B v c2 n2 D2) (hk:KpL B c1 c2 u v) (hf:∀ b,D2 b→D1 b∨u.heap.size≤b) (ho:∀ b,b≠w.heap.size+1+1→u'.heap[b]? =v.heap[b]?) (hz:u'.heap.size=v.heap.size) (hb:∀ n,n≤w.heap.size+1+1→Below n v u') (hc:u'.heap[w.heap.size+1+1]? =some (.cells cs' t (0,0))):
 BxS B c c2 Dm D2 n2 w u' t xs zs cs':=by
 have h1:=H.size;have h2:=hk.size;have h3:=H.bl;have far:∀ q,w.heap.size≤q→q<w.heap.size+3→v.heap[q]? =u.heap[q]? :=fun q g1 g2=>hk.block q (by omega) (by omega) (fun j=>H.rows j q g1 g2)
 have rows2:∀ j q,w.heap.size≤q→q<w.heap.size+3→(c2 j).ownBlock≠some q:=fun j q g1 g2 e=>by
  rcases hk.row j with r|r
  · exact H.rows j q g1 g2 (r▸e)
  · have:=r q e;omega
 have fr2:∀ b,D2 b→Dm b∨w.heap.size+3≤b:=fun b hb=>by
  rcases hf b hb with r|r
  · exact H.fr b r
  · exact .inr (by omega)
 refine ⟨hl.other (q:=w.heap.size+1+1) (by omega) (fun j=>rows2 j _ (by omega) (by omega)) (fun hd=> ?_) (by omega) (fun b _ hne=>ho b hne),(H.kp.trans (hk.toT (by omega))).trans (KpLt.low (hb _ (by omega))),(H.bel.trans (hk.belowT H.loan)).trans (hb _ (by omega)),fr2,rows2,H.dm,h3,by omega,(ho _ (by omega)).trans ((far _ (by omega) (by omega)).trans H.x),(ho _ (by omega)).trans ((far _ (by omega) (by omega)).trans H.z),hc⟩;rcases fr2 _ hd with r|r
 · have:=H.dm _ r;omega
 · omega
theorem BxS.cv {B:Nat} {c c1 c2:Nat→Value} {Dm D1:Nat→Prop} {n1:Nat→Nat} {w u v:World} {t:TypeId} {xs zs cs:Array Value} (H:BxS B c c1 Dm D1 n1 w u t xs zs cs) (hk:KpL B c1 c2 u v):v.heap[w.heap.size+1+1]? =some (.cells cs t (0,0)):=by
 have h1:=H.size;have h3:=H.bl;exact (hk.block _ (by omega) (by omega) (fun j=>H.rows j _ (by omega) (by omega))).trans H.c_
theorem BxS.fin {B:Nat} {c c1:Nat→Value} {Dm D1:Nat→Prop} {n1:Nat→Nat} {w u wz:World} {t:TypeId} {xs zs cs:Array Value} (H:BxS B c c1 Dm D1 n1 w u t xs zs cs) (ho:∀ b,b≠w.heap.size+1→wz.heap[b]? =u.heap[b]?) (hz:wz.heap.size=u.heap.size) (hb:∀ n,n≤w.heap.size+1→Below n u wz):
 LtAt B wz c1 n1 D1∧KpL B c c1 w wz∧∀ b,D1 b→Dm b∨w.heap.size≤b:=by
 have h1:=H.size;have h3:=H.bl;refine ⟨H.loan.other (q:=w.heap.size+1) (by omega) (fun j=>H.rows j _ (by omega) (by omega)) (fun hd=> ?_) (by omega) (fun b _ hne=>ho b hne),(H.kp.trans (KpLt.low (hb _ (by omega)))).toL,fun b hb=> ?_⟩
 · rcases H.fr _ hd with r|r
   · have:=H.dm _ r;omega
   · omega
 · rcases H.fr b hb with r|r
   · exact .inl r
   · exact .inr (by omega)
theorem q0I (w:World) (B i:Nat) (t:TypeId) (cs:Array Value) (v:Value) (h:w.heap[B]? =some (.cells cs t (0,0))):(w.setCell ⟨B,i,none⟩ v).heap[B]? =some (.cells (cs.setIfInBounds i v) t (0,0))∧(∀ b,b≠B→(w.setCell ⟨B,i,none⟩ v).heap[b]? =w.heap[b]?)∧(w.setCell ⟨B,i,none⟩ v).heap.size=w.heap.size∧∀ n,n≤B→Below n w (w.setCell ⟨B,i,none⟩ v):=by
 refine ⟨?_,fun b hb=>Below.heap_setCell _ _ _ _ hb,by simp,fun n hn=>(Below.refl n w).setCell (p:=⟨B,i,none⟩) hn _⟩;show (w.heap.modify B _)[B]? =_;rw [Array.getElem?_modify,if_pos rfl,h];rfl
theorem setT9o (w:World) (B o:Nat) (t:TypeId) (cs:Array Value) (a0 a1 a2 a3 a4 a5 a6 a7 a8:Value) (h:w.heap[B]? =some (.cells cs t (0,0))) (wz:World) (hz:wz=((((((((w.setCell ⟨B,o,none⟩ a0).setCell ⟨B,o+1,none⟩ a1).setCell ⟨B,o+2,none⟩ a2).setCell ⟨B,o+3,none⟩ a3).setCell ⟨B,o+4,none⟩ a4).setCell ⟨B,o+5,none⟩ a5).setCell ⟨B,o+6,none⟩ a6).setCell ⟨B,o+7,none⟩ a7).setCell ⟨B,o+8,none⟩ a8):
 wz.heap[B]? =some (.cells (((((((((cs.setIfInBounds o a0).setIfInBounds (o+1) a1).setIfInBounds (o+2) a2).setIfInBounds (o+3) a3).setIfInBounds (o+4) a4).setIfInBounds (o+5) a5).setIfInBounds (o+6) a6).setIfInBounds (o+7) a7).setIfInBounds (o+8) a8) t (0,0))∧(∀ b,b≠B→wz.heap[b]? =w.heap[b]?)∧wz.heap.size=w.heap.size∧∀ n,n≤B→Below n w wz:=by
 subst hz;have e:∀ (u:World) (c:Array Value) (i:Nat) (v:Value),u.heap[B]? =some (.cells c t (0,0))→(u.setCell ⟨B,i,none⟩ v).heap[B]? =some (.cells (c.setIfInBounds i v) t (0,0)):=fun u c i v hu=>(q0I u B i t c v hu).1;refine ⟨?_,fun b hb=> ?_,by simp,fun n hn=> ?_⟩
 · exact e _ _ _ _ (e _ _ _ _ (e _ _ _ _ (e _ _ _ _ (e _ _ _ _ (e _ _ _ _ (e _ _ _ _ (e _ _ _ _ (e _ _ _ _ h))))))))
 · rw [Below.heap_setCell _ _ _ _ hb,Below.heap_setCell _ _ _ _ hb,Below.heap_setCell _ _ _ _ hb,Below.heap_setCell _ _ _ _ hb,Below.heap_setCell _ _ _ _ hb,Below.heap_setCell _ _ _ _ hb,Below.heap_setCell _ _ _ _ hb,Below.heap_setCell _ _ _ _ hb,Below.heap_setCell _ _ _ _ hb]
 · exact ((((((((((Below.refl n w).setCell (p:=⟨B,o,none⟩) hn _).setCell (p:=⟨B,o+1,none⟩) hn _).setCell (p:=⟨B,o+2,none⟩) hn _).setCell (p:=⟨B,o+3,none⟩) hn _).setCell (p:=⟨B,o+4,none⟩) hn _).setCell (p:=⟨B,o+5,none⟩) hn _).setCell (p:=⟨B,o+6,none⟩) hn _).setCell (p:=⟨B,o+7,none⟩) hn _).setCell (p:=⟨B,o+8,none⟩) hn _)
def LTok (h:Nat):Prop:=∀ (B M:Nat) (T:TT) (v:Value) (w0 w:World) (c:Nat→Value) (n:Nat→Nat) (Dm:Nat→Prop),InT w0 h T v→tpN h T≤1048576→Below w0.heap.size w0 w→w0.heap.size≤B→LtAt B w c n Dm→M≤1099511627776→(∀ q,n q+ltW h T≤M)→
 Calls Tryz.prog 6 #[.pointer (some ⟨B,0,none⟩),v] w fun e w'=>∃ (pa2 pb2 pc2 pd2 pe2:Bool) (no2 xo2 ao2 oo2:Option Addr) (nN2 nc2 xN2 xc2 aN2 ac2 oN2 oc2:Nat) (c2:Nat→Value) (n2:Nat→Nat) (D2:Nat→Prop),e= .returned (.agg #[.bool pa2,.bool pb2,.bool pc2,.bool pd2,.slice no2 nN2 nc2,.bool pe2,.slice xo2 xN2 xc2,.slice ao2 aN2 ac2,.slice oo2 oN2 oc2])∧Hid (LtAt B w' c2 n2 D2∧KpL B c c2 w w'∧(∀ b,D2 b→Dm b∨w.heap.size≤b)∧(∀ q,n2 q≤n q+ltW h T)∧InTL (fun b=>w.heap.size≤b∧LnD B c2 b) w' h T (.agg #[.bool pa2,.bool pb2,.bool pc2,.bool pd2,.slice no2 nN2 nc2,.bool pe2,.slice xo2 xN2 xc2,.slice ao2 aN2 ac2,.slice oo2 oN2 oc2]))
end Go.Proofs.YtnokkmiaeacogaaGreat
namespace Go.Proofs.YtnokkmiaeacogaaGreat
open Go.RowKit
attribute [local go_sem] Oper.semAt_some
set_option maxRecDepth 100000
set_option maxHeartbeats 12800000
theorem w_tSpan_el (B:Nat) (w0:World) (N M:Nat) (ps:List (ByteArray × ByteArray)):ElSpans B w0 N M (fun _=>0) (fun i x=>∃ hi:i<ps.length,x= .agg #[.string (ps[i]'hi).1,.string (ps[i]'hi).2]) (ESpan ps):=by
 rintro i x hiN ⟨hi,rfl⟩ w c1 n1 D1 hb hL hn;generalize hs:ps[i].1=sl1 at *;generalize hg:ps[i].2=sg1 at *;have HS:=hQz (And.intro hs hg);clear hs hg;obtain ⟨W3,hW3⟩:∃ W3,((w.alloc (.cells #[.string sl1,.string sg1] 83)).alloc (.cells #[.string ⟨#[]⟩,.string ⟨#[]⟩] 83)).alloc (.cells #[.string sl1,.string sg1] 83)=W3:=⟨_,rfl⟩;have HX0:=hQz (BxS.start (xs:= #[.string sl1,.string sg1]) (zs:= #[.string ⟨#[]⟩,.string ⟨#[]⟩]) hL hW3);have HW3:=hQz hW3;obtain ⟨a0,a1,_⟩:=boxT2 HX0.out.x;obtain ⟨t0,t1,_⟩:=boxT2 HX0.out.c_;obtain ⟨q0,q1,frz⟩:=boxT2 HX0.out.z;have g0:=frz 0;have g1:=frz 1;have HLX:=hQz hL;clear hL hb hn frz;go_enter Tryz.func57,Tryz.ntmps57;go_wp2_with fail;(try simp only [Exit.inBlock,Exit.then])
 (try rw [hW3])
 generalize hz:(W3.setCell ⟨w.heap.size+1,0,none⟩ (.string sl1)).setCell ⟨w.heap.size+1,1,none⟩ (.string sg1)=wz;obtain ⟨z1,z2,z3,z4⟩:=setT2 _ _ _ _ _ _ _ HX0.out.z wz hz.symm;obtain ⟨d0,d1,_⟩:=boxT2 z1;refine bodyPost_ret (v:= .agg #[.string sl1,.string sg1]) (by simp [results,Tryz.results57,go_sem,d0,d1]) rfl ?_;obtain ⟨hln,hkp,hfr⟩:=HX0.out.fin z2 z3 z4;refine ⟨sl1,sg1,c1,n1,D1,rfl,⟨hln,hkp,hfr,fun q=>Nat.le_refl _,⟨hi,?_⟩⟩⟩;rw [HS.out.1,HS.out.2]
def PArr (w0:World) (h:Nat) (as_:List AR):Nat→Value→Prop:=fun i x=>∃ hi:i<as_.length,∃ c0 c1 c2 c3 c4 c5 c6 c7 c8:Value,x= .agg #[c0,c1,c2,c3,c4,c5,c6,c7,c8,.int .i64 (as_[i]'hi).min,.int .i64 (as_[i]'hi).max]∧InT w0 h (as_[i]'hi).item (.agg #[c0,c1,c2,c3,c4,c5,c6,c7,c8])
theorem q0z {W:World} {h:Nat} {T:TT} {c0 c1 c2 c3 c4 c5 c6 c7 c8:Value} (hI:InT W h T (.agg #[c0,c1,c2,c3,c4,c5,c6,c7,c8])):∃ (no:Option Addr) (nc:Nat) (xo:Option Addr) (xc:Nat) (ao:Option Addr) (ac:Nat) (oo:Option Addr) (oc:Nat),c0= .bool T.all∧c1= .bool T.nul∧c2= .bool T.fls∧c3= .bool T.tru∧c4= .slice no T.nums.length nc∧c5= .bool T.any∧c6= .slice xo T.texts.length xc∧c7= .slice ao T.arrs.length ac∧c8= .slice oo T.objs.length oc:=by
 cases h with
 | zero=>exact hI.elim
 | succ h=>
  obtain ⟨no,nc,xo,xc,ao,ac,oo,oc,e,_⟩:=hI;simp only [Value.agg.injEq,Array.mk.injEq,List.cons.injEq,and_true] at e;exact ⟨no,nc,xo,xc,ao,ac,oo,oc,e⟩
theorem w_tArr_one (h:Nat) (ih:LTok h) (B M:Nat) (A:AR) (w0 w:World) (c:Nat→Value) (n:Nat→Nat) (Dm:Nat→Prop) (e0 e1 e2 e3 e4 e5 e6 e7 e8:Value) (hT:InT w0 h A.item (.agg #[e0,e1,e2,e3,e4,e5,e6,e7,e8])) (htp:tpN h A.item≤1048576) (hb:Below w0.heap.size w0 w) (hB:w0.heap.size≤B) (hL:LtAt B w c n Dm) (hM:M≤1099511627776) (hn:∀ q,n q+ltW h A.item≤M):
 Calls Tryz.prog 60 #[.pointer (some ⟨B,0,none⟩),.agg #[e0,e1,e2,e3,e4,e5,e6,e7,e8,.int .i64 A.min,.int .i64 A.max]] w fun e w'=>∃ (pa2 pb2 pc2 pd2 pe2:Bool) (no2 xo2 ao2 oo2:Option Addr) (nN2 nc2 xN2 xc2 aN2 ac2 oN2 oc2:Nat) (c2:Nat→Value) (n2:Nat→Nat) (D2:Nat→Prop),e= .returned (.agg #[.bool pa2,.bool pb2,.bool pc2,.bool pd2,.slice no2 nN2 nc2,.bool pe2,.slice xo2 xN2 xc2,.slice ao2 aN2 ac2,.slice oo2 oN2 oc2,.int .i64 A.min,.int .i64 A.max])∧Hid (LtAt B w' c2 n2 D2∧KpL B c c2 w w'∧(∀ b,D2 b→Dm b∨w.heap.size≤b)∧(∀ q,n2 q≤n q+ltW h A.item)∧InTL (fun b=>w.heap.size≤b∧LnD B c2 b) w' h A.item (.agg #[.bool pa2,.bool pb2,.bool pc2,.bool pd2,.slice no2 nN2 nc2,.bool pe2,.slice xo2 xN2 xc2,.slice ao2 aN2 ac2,.slice oo2 oN2 oc2])):=by
 obtain ⟨no1,nc1,xo1,xc1,ao1,ac1,oo1,oc1,rfl,rfl,rfl,rfl,rfl,rfl,rfl,rfl,rfl⟩:=q0z hT;obtain ⟨W3,hW3⟩:∃ W3,((w.alloc (.cells #[.bool A.item.all,.bool A.item.nul,.bool A.item.fls,.bool A.item.tru,.slice no1 A.item.nums.length nc1,.bool A.item.any,.slice xo1 A.item.texts.length xc1,.slice ao1 A.item.arrs.length ac1,.slice oo1 A.item.objs.length oc1,.int .i64 A.min,.int .i64 A.max] 89)).alloc (.cells #[.bool false,.bool false,.bool false,.bool false,.slice none 0 0,.bool false,.slice none 0 0,.slice none 0 0,.slice none 0 0,.int .i64 0,.int .i64 0] 89)).alloc (.cells #[.bool A.item.all,.bool A.item.nul,.bool A.item.fls,.bool A.item.tru,.slice no1 A.item.nums.length nc1,.bool A.item.any,.slice xo1 A.item.texts.length xc1,.slice ao1 A.item.arrs.length ac1,.slice oo1 A.item.objs.length oc1,.int .i64 A.min,.int .i64 A.max] 89)=W3:=⟨_,rfl⟩;have HX0:=hQz (BxS.start (xs:= #[.bool A.item.all,.bool A.item.nul,.bool A.item.fls,.bool A.item.tru,.slice no1 A.item.nums.length nc1,.bool A.item.any,.slice xo1 A.item.texts.length xc1,.slice ao1 A.item.arrs.length ac1,.slice oo1 A.item.objs.length oc1,.int .i64 A.min,.int .i64 A.max]) (zs:= #[.bool false,.bool false,.bool false,.bool false,.slice none 0 0,.bool false,.slice none 0 0,.slice none 0 0,.slice none 0 0,.int .i64 0,.int .i64 0]) hL hW3);have hb3:Below w0.heap.size w0 W3:=hb.trans ((HX0.out.bel.mono hB).mono (Nat.le_refl _));have HC1:=hQz (ih B M A.item _ w0 W3 c n Dm hT htp hb3 hB HX0.out.loan hM hn);obtain ⟨a0,a1,a2,a3,a4,a5,a6,a7,a8,a9,a10,_⟩:=q0D HX0.out.x;clear hT htp hb hL hb3 ih hn;go_enter Tryz.func60,Tryz.ntmps60;go_wp2_with fail;refine HC1.out.mono ?_;rintro e v1 ⟨pa2,pb2,pc2,pd2,pe2,no2,xo2,ao2,oo2,nN2,nc2,xN2,xc2,aN2,ac2,oN2,oc2,c1,n1,D1,rfl,HR1⟩;have HL1:=hQz HR1.out.1;have HK1:=hQz HR1.out.2.1;have HF1:=hQz HR1.out.2.2.1;obtain ⟨t0,t1,t2,t3,t4,t5,t6,t7,t8,t9,t10,fr1⟩:=q0D (HX0.out.cv HK1.out);have f0:=fr1 0;have f1:=fr1 1;have f2:=fr1 2;have f3:=fr1 3;have f4:=fr1 4;have f5:=fr1 5;have f6:=fr1 6;have f7:=fr1 7;have f8:=fr1 8;obtain ⟨u1,hu1⟩:∃ u,((((((((v1.setCell ⟨w.heap.size+1+1,0,none⟩ (.bool pa2)).setCell ⟨w.heap.size+1+1,1,none⟩ (.bool pb2)).setCell ⟨w.heap.size+1+1,2,none⟩ (.bool pc2)).setCell ⟨w.heap.size+1+1,3,none⟩ (.bool pd2)).setCell ⟨w.heap.size+1+1,4,none⟩ (.slice no2 nN2 nc2)).setCell ⟨w.heap.size+1+1,5,none⟩ (.bool pe2)).setCell ⟨w.heap.size+1+1,6,none⟩ (.slice xo2 xN2 xc2)).setCell ⟨w.heap.size+1+1,7,none⟩ (.slice ao2 aN2 ac2)).setCell ⟨w.heap.size+1+1,8,none⟩ (.slice oo2 oN2 oc2)=u:=⟨_,rfl⟩
 obtain ⟨y1,y2,y3,y4⟩:=setT9o v1 (w.heap.size+1+1) 0 89 _ _ _ _ _ _ _ _ _ _ (HX0.out.cv HK1.out) u1 hu1.symm;simp only [Nat.zero_add,Nat.reduceAdd,List.setIfInBounds_toArray,List.set_cons_succ,List.set_cons_zero] at y1;have HX1:=hQz (HX0.out.step (cs':= #[.bool pa2,.bool pb2,.bool pc2,.bool pd2,.slice no2 nN2 nc2,.bool pe2,.slice xo2 xN2 xc2,.slice ao2 aN2 ac2,.slice oo2 oN2 oc2,.int .i64 A.min,.int .i64 A.max]) HL1.out HK1.out HF1.out y2 y3 y4 y1);have HU1:=hQz (And.intro y2 y3);clear y1 y2 y3 y4 fr1;obtain ⟨r0,r1,r2,r3,r4,r5,r6,r7,r8,r9,r10,_⟩:=q0D HX1.out.c_;obtain ⟨q0,q1,q2,q3,q4,q5,q6,q7,q8,q9,q10,frz⟩:=q0D HX1.out.z;have g0:=frz 0;have g1:=frz 1;have g2:=frz 2;have g3:=frz 3;have g4:=frz 4;have g5:=frz 5;have g6:=frz 6;have g7:=frz 7;have g8:=frz 8;have g9:=frz 9;have g10:=frz 10;clear HC1 a0 a1 a2 a3 a4 a5 a6 a7 a8 a9 a10 hW3 frz;go_wp2_with fail;(try simp only [Exit.inBlock,Exit.then])
 generalize hz:((((((((((u1.setCell ⟨w.heap.size+1,0,none⟩ (.bool pa2)).setCell ⟨w.heap.size+1,1,none⟩ (.bool pb2)).setCell ⟨w.heap.size+1,2,none⟩ (.bool pc2)).setCell ⟨w.heap.size+1,3,none⟩ (.bool pd2)).setCell ⟨w.heap.size+1,4,none⟩ (.slice no2 nN2 nc2)).setCell ⟨w.heap.size+1,5,none⟩ (.bool pe2)).setCell ⟨w.heap.size+1,6,none⟩ (.slice xo2 xN2 xc2)).setCell ⟨w.heap.size+1,7,none⟩ (.slice ao2 aN2 ac2)).setCell ⟨w.heap.size+1,8,none⟩ (.slice oo2 oN2 oc2)).setCell ⟨w.heap.size+1,9,none⟩ (.int .i64 A.min)).setCell ⟨w.heap.size+1,10,none⟩ (.int .i64 A.max)=wz;obtain ⟨z1,z2,z3,z4⟩:=setT11 _ _ _ _ _ _ _ _ _ _ _ _ _ _ _ _ _ _ _ _ _ _ _ _ _ HX1.out.z wz hz.symm;obtain ⟨d0,d1,d2,d3,d4,d5,d6,d7,d8,d9,d10,_⟩:=q0D z1;refine bodyPost_ret (v:= .agg #[.bool pa2,.bool pb2,.bool pc2,.bool pd2,.slice no2 nN2 nc2,.bool pe2,.slice xo2 xN2 xc2,.slice ao2 aN2 ac2,.slice oo2 oN2 oc2,.int .i64 A.min,.int .i64 A.max]) (by simp [results,Tryz.results60,go_sem,d0,d1,d2,d3,d4,d5,d6,d7,d8,d9,d10]) rfl ?_;obtain ⟨hln,hkp,hfr⟩:=HX1.out.fin z2 z3 z4;clear d0 d1 d2 d3 d4 d5 d6 d7 d8 d9 d10;have hw3:=HX0.out.size;have hk1:=HK1.out.size;have hv1:=HU1.out.2;have hp1:∀ b,w.heap.size+3≤b→LnD B c1 b→b<v1.heap.size→wz.heap[b]? =v1.heap[b]? ∧LnD B c1 b:=fun b h1 h2 h3=>⟨(z2 b (by omega)).trans (HU1.out.1 b (by omega)),h2⟩;refine ⟨pa2,pb2,pc2,pd2,pe2,no2,xo2,ao2,oo2,nN2,nc2,xN2,xc2,aN2,ac2,oN2,oc2,c1,n1,D1,rfl,⟨hln,hkp,hfr,HR1.out.2.2.2.1,?_⟩⟩;exact HR1.out.2.2.2.2.keep (by omega) (fun b hb hl=>(hp1 b (by have:=hb.1;omega) hb.2 hl).1) (fun b hb hl=>⟨by have:=hb.1;omega,hb.2⟩)
theorem w_tArr_el (h:Nat) (ih:LTok h) (B:Nat) (w0:World) (N M:Nat) (as_:List AR) (hB:w0.heap.size≤B) (hM:M≤1099511627776) (htp:∀ a∈as_,tpN h a.item≤1048576):ElArrs B w0 N M (fun i=>((as_[i]?).map fun a=>ltW h a.item).getD 0) (PArr w0 h as_) (EArr h as_):=by
 rintro i x hiN ⟨hi,e0,e1,e2,e3,e4,e5,e6,e7,e8,rfl,hT⟩ w c n Dm hb hL hn;have hsz:((as_[i]?).map fun a=>ltW h a.item).getD 0=ltW h as_[i].item:=by rw [List.getElem?_eq_getElem hi];rfl
 dsimp only at hn ⊢;rw [hsz] at hn ⊢;refine (w_tArr_one h ih B M as_[i] w0 w c n Dm e0 e1 e2 e3 e4 e5 e6 e7 e8 hT (htp _ (List.getElem_mem hi)) hb hB hL hM hn).mono ?_;rintro e w' ⟨pa2,pb2,pc2,pd2,pe2,no2,xo2,ao2,oo2,nN2,nc2,xN2,xc2,aN2,ac2,oN2,oc2,c2,n2,D2,rfl,HR⟩;obtain ⟨r1,r2,r3,r4,r5⟩:=HR.out;exact ⟨pa2,pb2,pc2,pd2,pe2,no2,xo2,ao2,oo2,nN2,nc2,xN2,xc2,aN2,ac2,oN2,oc2,_,_,c2,n2,D2,rfl,⟨r1,r2,r3,r4,⟨hi,_,_,_,_,_,_,_,_,_,rfl,r5⟩⟩⟩
end Go.Proofs.YtnokkmiaeacogaaGreat
