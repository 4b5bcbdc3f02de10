import Derived.Test.YtnokkmiaeacogaaGreatM12
import Derived.Test.YtnokkmiaeacogaaGreatM16
import Derived.Test.YtnokkmiaeacogaaGreatRows
import Derived.WideKeyArgs
import Derived.WideKeyElems4
import Derived.Deep.Slices
import Derived.OpenShut
import Derived.WalkKit
import Derived.Test.YtnokkmiaeacogaaGreatM7
set_option linter.unusedVariables false
namespace Go.Proofs.YtnokkmiaeacogaaGreat
open Go.ChangeShapes Go.WideShapes Go.RowKit
set_option maxRecDepth 100000
set_option maxHeartbeats 12800000
theorem IIn.le {W:World} {h h':Nat} {io:Option Addr} {ts:List VT} (H:IIn W h io ts) (hh:h≤h'):IIn W h' io ts:=by
 refine ⟨fun h0=> ?_⟩;obtain ⟨b,off,e,hl,hc⟩:=H.row h0;refine ⟨b,off,e,hl,fun i hi=> ?_⟩;obtain ⟨v0,v1,v2,v3,v4,c,ht⟩:=hc i hi;exact ⟨v0,v1,v2,v3,v4,c,ht.le hh⟩
section
variable {H:Type} {enc:TypeId × Value→H} {W:World}
end
theorem q0G (f:Nat→Nat) (n:Nat):sumL ((List.range (n+1)).map f)=f 0+sumL ((List.range n).map fun i=>f (i+1)):=by
 rw [List.range_succ_eq_map,List.map_cons,List.map_map];rfl
theorem bulk_sum {H:Type}:∀ (l:List (DataW H)) (f:Nat→Nat),(∀ i,(hi:i<l.length)→f i≤Rows.uptoBulk l[i])→sumL ((List.range l.length).map f)≤Rows.uptoBulkAll l
 | [],f,_=>Nat.zero_le _
 | a::r,f,hf=>by
  rw [List.length_cons,q0G];simp only [Rows.uptoBulkAll];have h0:f 0≤Rows.uptoBulk a:=hf 0 (by simp);have hr:=bulk_sum r (fun i=>f (i+1)) (fun i hi=>hf (i+1) (by simpa using hi));omega
theorem q0N {α:Type} {f g: α→Nat}:∀ (l:List α),(∀ t∈l,f t=g t)→sumL (l.map f)=sumL (l.map g)
 | [],_=>rfl
 | a::r,h=>by
  show f a+_=g a+_;rw [h a mcS];have:=q0N r (fun t ht=>h t (List.mem_cons_of_mem _ ht));omega
section
variable {H:Type} {enc:TypeId × Value→H} {W:World}
end
theorem bulk_memT {H:Type} {d:DataW H}:∀ {l:List (DataW H)},d∈l→Rows.uptoBulk d≤Rows.uptoBulkAll l
 | a::r,h=>by
  simp only [Rows.uptoBulkAll];rcases List.mem_cons.1 h with rfl|h
  · omega
  · have:=bulk_memT h;omega
theorem bulk_posT {H:Type} (d:DataW H):1≤Rows.uptoBulk d:=by
 cases d with
 | lit l=>cases l <;> simp [Rows.uptoBulk]
 | _=>simp [Rows.uptoBulk]
theorem bulk_lenT {H:Type}:∀ (l:List (DataW H)),l.length≤Rows.uptoBulkAll l
 | []=>Nat.zero_le _
 | a::r=>by
  have:=bulk_lenT r;have:=bulk_posT a;simp only [Rows.uptoBulkAll,List.length_cons];omega
theorem cells4T:Tryz.prog.cellsOf 4=1:=by kernel_rfl
theorem cellsSpT:Tryz.prog.cellsOf 83=2:=by kernel_rfl
theorem cellsTyT:Tryz.prog.cellsOf 27=9:=by kernel_rfl
theorem cellsArT:Tryz.prog.cellsOf 89=11:=by kernel_rfl
theorem cellsObT:Tryz.prog.cellsOf 95=12:=by kernel_rfl
theorem cellsSpsT:Tryz.prog.cellsOf 22=1:=by kernel_rfl
theorem cellsStsT:Tryz.prog.cellsOf 23=1:=by kernel_rfl
theorem cellsArsT:Tryz.prog.cellsOf 24=1:=by kernel_rfl
theorem cellsObsT:Tryz.prog.cellsOf 25=1:=by kernel_rfl
theorem cellsTysT:Tryz.prog.cellsOf 92=1:=by kernel_rfl
theorem cellsBosT:Tryz.prog.cellsOf 93=1:=by kernel_rfl
section
variable {H:Type} {enc:TypeId × Value→H} {W:World}
theorem q0L {α:Type} [Inhabited α] {t e:TypeId} {k fuel:Nat} {cs:List Value} {x:DataW H × List MemPlace} (ht:Tryz.prog.underlying t=some (.slice e)) (hk:Tryz.prog.cellsOf e=k) (hk0:0<k) (h:DataW.trod enc Tryz.prog W 0 (fun _=>true) true fuel t cs=some x) (P: α→List Value→Nat→Prop)
 (hel:∀ (n:Nat) (cs':List Value) (d:DataW H) (ps:List MemPlace),n<fuel→DataW.trod enc Tryz.prog W 0 (fun _=>true) true n e cs'=some (d,ps)→Rows.uptoBulk d≤Rows.uptoBulk x.1→∃ a,P a cs' (Rows.uptoBulk d)):
 ∃ (io:Option Addr) (cap:Nat) (zs:List α) (g:Nat→Nat),cs=[.slice io zs.length cap]∧zs.length≤cap∧zs.length≤Rows.uptoBulk x.1∧sumL ((List.range zs.length).map g)≤Rows.uptoBulk x.1∧(0<zs.length→∃ b off,io=some ⟨b,off,none⟩∧b<W.heap.size∧∀ i,(hi:i<zs.length)→∃ cs',P zs[i] cs' (g i)∧cs'.length=k∧∀ j,j<k→W.cell? ⟨b,off+i*k+j,none⟩=cs'[j]?):=by
 rcases elems_open ht h with ⟨e3,_⟩|⟨a,len,cap,n,elems,sp,hfn,e3,hlc,hlen,hd,hcell⟩
 · exact ⟨none,0,[],fun _=>0,e3,Nat.le_refl _,Nat.zero_le _,Nat.zero_le _,fun h=>absurd h (by show ¬ 0<0;omega)⟩
 · have hbk:Rows.uptoBulkAll elems≤Rows.uptoBulk x.1:=by
    rw [hd];simp only [Rows.uptoBulk];omega
   have hbl:=bulk_lenT elems;obtain ⟨g,hg⟩:∃ g:Nat→Nat,∀ i,(hi:i<elems.length)→g i=Rows.uptoBulk elems[i]:=⟨fun i=>if hi:i<elems.length then Rows.uptoBulk elems[i] else 0,fun i hi=>by simp [hi]⟩;have hsum:=bulk_sum (H:=H) elems g (fun i hi=>Nat.le_of_eq (hg i hi));rw [hlen] at hsum
   obtain ⟨f,hf⟩:=Go.Deep.choose_lt (α:= α) (n:=len) (p:=fun i z=>∃ cs',P z cs' (g i)∧cs'.length=k∧∀ j,j<k→W.cell? (a.add (i*k+j))=cs'[j]?) (fun i hi=>by
    obtain ⟨cs',ps,h1,h2⟩:=hcell i (by omega);rw [hk] at h1;obtain ⟨_,hl,hc⟩:=World.cells?_some h1;obtain ⟨z,hz⟩:=hel n cs' _ ps (by omega) h2 (Nat.le_trans (bulk_memT (List.getElem_mem _)) hbk);exact ⟨z,cs',by rw [hg i (by omega)];exact hz,hl,fun j hj=>by rw [← Go.Deep.add_add];exact hc j hj⟩)
   refine ⟨some a,cap,(List.range len).map f,g,by rw [e3];simp,by simpa using hlc,by simp;omega,by simp only [List.length_map,List.length_range];omega,fun hp=> ?_⟩;have hp':0<len:=by simpa using hp
   obtain ⟨cs0,hP0,hl0,hc0⟩:=hf 0 hp';have hc00:=hc0 0 hk0;rw [List.getElem?_eq_getElem (by omega)] at hc00;obtain ⟨b,off,spot⟩:=a
   have hspot:spot=none:=by
    have:W.cell? ((⟨b,off,spot⟩:Addr).add 0)=some (cs0[0]'(by omega)):=by simpa using hc00
    simpa [Addr.add] using World.cell?_spot this
   subst hspot;refine ⟨b,off,rfl,?_,fun i hi=> ?_⟩
   · have:W.cell? ((⟨b,off,none⟩:Addr).add 0)=some (cs0[0]'(by omega)):=by simpa using hc00
     have h:=World.block_lt_of_cell? W _ this;simpa [Addr.add] using h
   · have hi':i<len:=by simpa using hi
     obtain ⟨cs',hP,hl,hc⟩:=hf i hi';refine ⟨cs',by simpa using hP,hl,fun j hj=> ?_⟩;have:=hc j hj;rw [Go.WideShapes.add_plain,← Nat.add_assoc] at this;exact this
end
instance:Inhabited TT:=⟨.mk false false false false false [] [] [] []⟩
instance:Inhabited AR:=⟨.mk default 0 0⟩
instance:Inhabited OB:=⟨.mk [] [] [] default⟩
section
variable {H:Type} {enc:TypeId × Value→H} {W:World}
theorem spans_open {fuel:Nat} {cs:List Value} {x:DataW H × List MemPlace} (h:DataW.trod enc Tryz.prog W 0 (fun _=>true) true fuel 22 cs=some x):
 ∃ (io:Option Addr) (cap:Nat) (ps:List (ByteArray × ByteArray)),cs=[.slice io ps.length cap]∧ps.length≤cap∧ps.length≤Rows.uptoBulk x.1∧(∀ p∈ps,p.1.size≤Rows.uptoBulk x.1∧p.2.size≤Rows.uptoBulk x.1)∧SpIn W io ps:=by
 obtain ⟨io,cap,ps,_,h1,h2,h3,_,h4⟩:=q0L (α:=ByteArray × ByteArray) Tryz.underlying22 cellsSpT (by omega) h (fun p cs' _=>cs'=[.string p.1,.string p.2]∧p.1.size≤Rows.uptoBulk x.1∧p.2.size≤Rows.uptoBulk x.1) (by
  intro n cs' d ps hn ht hb;obtain ⟨xs,m,rfl,hd,hl,hxn,hi⟩:=DataW.trod_struct Tryz.underlying83 ht;rw [cellsSpT] at hl;have hn2:xs.length=2:=hxn;have h0:=hi 0 _ rfl;have h1:=hi 1 _ rfl
  match xs,hn2,cs',hl with
  | [y0,y1],_,[v0,v1],_=>
   simp [g_cells9] at h0 h1;obtain ⟨A,e0,d0,_⟩:=DataW.trod_string Tryz.underlying9 h0;obtain ⟨B,e1,d1,_⟩:=DataW.trod_string Tryz.underlying9 h1;simp at e0 e1;subst e0 e1;have l0:A.data.toList.length=A.size:=by rw [Array.length_toList];rfl
   have l1:B.data.toList.length=B.size:=by rw [Array.length_toList];rfl
   have hd':d=_:=congrArg Prod.fst hd;rw [hd'] at hb;simp only [List.map_cons,List.map_nil,Rows.uptoBulk,Rows.uptoBulkAll,d0,d1] at hb;exact ⟨(A,B),rfl,by show A.size≤_;omega,by show B.size≤_;omega⟩)
 refine ⟨io,cap,ps,h1,h2,h3,?_,⟨fun h0=> ?_⟩⟩
 · intro p hp;obtain ⟨i,hi,rfl⟩:=List.getElem_of_mem hp;obtain ⟨b,off,_,_,hc⟩:=h4 (by omega);obtain ⟨cs',hP,_⟩:=hc i hi;exact hP.2
 · obtain ⟨b,off,e,hl,hc⟩:=h4 h0;refine ⟨b,off,e,hl,fun i hi=> ?_⟩;obtain ⟨cs',hP,_,hcell⟩:=hc i hi;rw [hP.1] at hcell;exact ⟨hcell 0 (by omega),hcell 1 (by omega)⟩
theorem bools_open {fuel:Nat} {cs:List Value} {x:DataW H × List MemPlace} (h:DataW.trod enc Tryz.prog W 0 (fun _=>true) true fuel 93 cs=some x):
 ∃ (io:Option Addr) (cap:Nat) (bs:List Bool),cs=[.slice io bs.length cap]∧bs.length≤cap∧bs.length≤Rows.uptoBulk x.1∧BoIn W io bs:=by
 obtain ⟨io,cap,bs,_,h1,h2,h3,_,h4⟩:=q0L (α:=Bool) Tryz.underlying93 cells4T (by omega) h (fun p cs' _=>cs'=[.bool p]) (by
  intro n cs' d ps hn ht hb;obtain ⟨z,hz,_⟩:=DataW.trod_bool Tryz.underlying4 ht;exact ⟨z,hz⟩)
 refine ⟨io,cap,bs,h1,h2,h3,⟨fun h0=> ?_⟩⟩;obtain ⟨b,off,e,hl,hc⟩:=h4 h0;refine ⟨b,off,e,hl,fun i hi=> ?_⟩;obtain ⟨cs',hP,_,hcell⟩:=hc i hi;rw [hP] at hcell;have:=hcell 0 (by omega);simpa using this
theorem texts_open {fuel:Nat} {cs:List Value} {x:DataW H × List MemPlace} (h:DataW.trod enc Tryz.prog W 0 (fun _=>true) true fuel 23 cs=some x):
 ∃ (io:Option Addr) (cap:Nat) (ks:List ByteArray),cs=[.slice io ks.length cap]∧ks.length≤cap∧ks.length≤Rows.uptoBulk x.1∧(∀ k∈ks,k.size≤Rows.uptoBulk x.1)∧KIn W io ks:=by
 obtain ⟨io,cap,ks,_,h1,h2,h3,_,h4⟩:=q0L (α:=ByteArray) Tryz.underlying23 g_cells9 (by omega) h (fun p cs' _=>cs'=[.string p]∧p.size≤Rows.uptoBulk x.1) (by
  intro n cs' d ps hn ht hb;obtain ⟨A,hz,hd,_⟩:=DataW.trod_string Tryz.underlying9 ht;have l0:A.data.toList.length=A.size:=by rw [Array.length_toList];rfl
  have hd':d=_:=congrArg Prod.fst hd;rw [hd'] at hb;simp only [Rows.uptoBulk] at hb;exact ⟨A,hz,by omega⟩)
 refine ⟨io,cap,ks,h1,h2,h3,?_,⟨fun h0=> ?_⟩⟩
 · intro p hp;obtain ⟨i,hi,rfl⟩:=List.getElem_of_mem hp;obtain ⟨b,off,_,_,hc⟩:=h4 (by omega);obtain ⟨cs',hP,_⟩:=hc i hi;exact hP.2
 · obtain ⟨b,off,e,hl,hc⟩:=h4 h0;refine ⟨b,off,e,hl,fun i hi=> ?_⟩;obtain ⟨cs',hP,_,hcell⟩:=hc i hi;rw [hP.1] at hcell;have:=hcell 0 (by omega);have hg:ks.getD i .empty=ks[i]:=by simp [List.getD,hi]
   rw [hg];simpa using this
end
def tpN:Nat→TT→Nat
 | 0,_=>0
 | h+1,T=>1+T.texts.length+T.nums.length+sumL (T.arrs.map fun a=>tpN h a.item)+sumL (T.objs.map fun o=>o.names.length+o.must.length+tpN h o.rest+sumL (o.fields.map (tpN h)))
theorem InT.tpUp {W:World}:∀ {n m:Nat} {T:TT} {v:Value},InT W n T v→n≤m→tpN m T=tpN n T
 | 0,_,_,_,h,_=>h.elim
 | n+1,0,_,_,_,hm=>absurd hm (by omega)
 | n+1,m+1,T,v,h,hm=>by
  obtain ⟨no,nc,xo,xc,ao,ac,oo,oc,e,a1,a2,a3,a4,hs,hk,ha,ho⟩:=h
  have e1:sumL (T.arrs.map fun a=>tpN m a.item)=sumL (T.arrs.map fun a=>tpN n a.item):=q0N T.arrs (fun a hm2=>by
   obtain ⟨i,hil,rfl⟩:=List.getElem_of_mem hm2;obtain ⟨b,off,_,_,hc⟩:=ha (by omega);obtain ⟨c0,c1,c2,c3,c4,c5,c6,c7,c8,_,_,_,h4⟩:=hc i hil;exact h4.tpUp (by omega))
  have e2:sumL (T.objs.map fun o=>o.names.length+o.must.length+tpN m o.rest+sumL (o.fields.map (tpN m)))=sumL (T.objs.map fun o=>o.names.length+o.must.length+tpN n o.rest+sumL (o.fields.map (tpN n))):=q0N T.objs (fun o hm2=>by
   obtain ⟨i,hil,rfl⟩:=List.getElem_of_mem hm2;obtain ⟨b,off,_,_,hc⟩:=ho (by omega);obtain ⟨ko,kc,fo,fc,mo,mc,c0,c1,c2,c3,c4,c5,c6,c7,c8,_,_,_,_,_,_,h6,h7⟩:=hc i hil
   have e3:sumL (T.objs[i].fields.map (tpN m))=sumL (T.objs[i].fields.map (tpN n)):=q0N _ (fun f hf=>by
    obtain ⟨j,hj,rfl⟩:=List.getElem_of_mem hf;obtain ⟨b2,off2,_,_,hd⟩:=h6 (by omega);obtain ⟨d0,d1,d2,d3,d4,d5,d6,d7,d8,_,k2⟩:=hd j hj;exact k2.tpUp (by omega))
   rw [h7.tpUp (show n≤m by omega),e3])
  show 1+_+_+sumL (T.arrs.map fun a=>tpN m a.item)+sumL (T.objs.map fun o=>o.names.length+o.must.length+tpN m o.rest+sumL (o.fields.map (tpN m)))=_;rw [e1,e2];rfl
theorem sum_idx {α:Type} (f: α→Nat):∀ (zs:List α) (g:Nat→Nat),(∀ i,(hi:i<zs.length)→f zs[i]≤g i)→sumL (zs.map f)≤sumL ((List.range zs.length).map g)
 | [],g,_=>Nat.le_refl _
 | z::zs,g,h=>by
  have ih:=sum_idx f zs (fun i=>g (i+1)) (fun i hi=>h (i+1) (by simpa using hi));have h0:=h 0 (by simp);rw [List.length_cons,q0G,List.map_cons];show f z+sumL (zs.map f)≤_;have h0':f z≤g 0:=h0;omega
section
variable {H:Type} {enc:TypeId × Value→H} {W:World}
def TyP (W:World) (m:Nat) (T:TT) (cs:List Value) (B:Nat):Prop:=tpN m T≤B∧∃ c0 c1 c2 c3 c4 c5 c6 c7 c8:Value,cs=[c0,c1,c2,c3,c4,c5,c6,c7,c8]∧InT W m T (.agg #[c0,c1,c2,c3,c4,c5,c6,c7,c8])
def ArP (W:World) (m:Nat) (a:AR) (cs:List Value) (B:Nat):Prop:=tpN m a.item≤B∧∃ c0 c1 c2 c3 c4 c5 c6 c7 c8:Value,cs=[c0,c1,c2,c3,c4,c5,c6,c7,c8,.int .i64 a.min,.int .i64 a.max]∧InT W m a.item (.agg #[c0,c1,c2,c3,c4,c5,c6,c7,c8])
def ObP (W:World) (m:Nat) (o:OB) (cs:List Value) (B:Nat):Prop:=o.names.length+o.must.length+tpN m o.rest+sumL (o.fields.map (tpN m))≤B∧∃ (ko:Option Addr) (kc:Nat) (fo:Option Addr) (fc:Nat) (mo:Option Addr) (mc:Nat) (c0 c1 c2 c3 c4 c5 c6 c7 c8:Value),
 cs=[.slice ko o.names.length kc,.slice fo o.fields.length fc,.slice mo o.must.length mc,c0,c1,c2,c3,c4,c5,c6,c7,c8]∧
 (o.names.length≤kc∧o.fields.length≤fc∧o.must.length≤mc)∧
 (o.names.length≤140737488355328∧o.fields.length≤140737488355328∧o.must.length≤140737488355328∧∀ k∈o.names,k.size≤140737488355328)∧
 KIn W ko o.names∧BoIn W mo o.must∧
 (0<o.fields.length→∃ b2 off2,fo=some ⟨b2,off2,none⟩∧b2<W.heap.size∧∀ j,(hj:j<o.fields.length)→∃ d0 d1 d2 d3 d4 d5 d6 d7 d8:Value,
  C9 W b2 (off2+j*9) d0 d1 d2 d3 d4 d5 d6 d7 d8∧InT W m o.fields[j] (.agg #[d0,d1,d2,d3,d4,d5,d6,d7,d8]))∧
 InT W m o.rest (.agg #[c0,c1,c2,c3,c4,c5,c6,c7,c8])
def TyIH (enc:TypeId × Value→H) (W:World) (fuel:Nat):Prop:=∀ (n:Nat) (cs:List Value) (x:DataW H × List MemPlace),n<fuel→DataW.trod enc Tryz.prog W 0 (fun _=>true) true n 27 cs=some x→Rows.uptoBulk x.1≤1048576→∃ T,TyP W n T cs (Rows.uptoBulk x.1)
theorem c9_of {b o:Nat} {c0 c1 c2 c3 c4 c5 c6 c7 c8:Value} (h:∀ j,j<9→W.cell? ⟨b,o+j,none⟩=([c0,c1,c2,c3,c4,c5,c6,c7,c8]:List Value)[j]?):C9 W b o c0 c1 c2 c3 c4 c5 c6 c7 c8:=
 ⟨h 0 (by omega),h 1 (by omega),h 2 (by omega),h 3 (by omega),h 4 (by omega),h 5 (by omega),h 6 (by omega),h 7 (by omega),h 8 (by omega)⟩
theorem arr_el {fuel m:Nat} (ih:TyIH enc W fuel) (hm:fuel≤m+1) {n:Nat} {cs:List Value} {d:DataW H} {ps:List MemPlace} (hn:n<fuel) (ht:DataW.trod enc Tryz.prog W 0 (fun _=>true) true n 89 cs=some (d,ps)) (hb:Rows.uptoBulk d≤1048576):∃ a,ArP W m a cs (Rows.uptoBulk d):=by
 obtain ⟨xs,q,rfl,hd,hl,hxn,hi⟩:=DataW.trod_struct Tryz.underlying89 ht;rw [cellsArT] at hl;have hn3:xs.length=3:=hxn;have h0:=hi 0 _ rfl;have h1:=hi 1 _ rfl;have h2:=hi 2 _ rfl
 match xs,hn3,cs,hl with
 | [y0,y1,y2],_,[v0,v1,v2,v3,v4,v5,v6,v7,v8,v9,v10],_=>
  simp [cellsTyT,g_cells3] at h0 h1 h2;have hd':d=_:=congrArg Prod.fst hd;rw [hd'] at hb ⊢;simp only [List.map_cons,List.map_nil,Rows.uptoBulk,Rows.uptoBulkAll] at hb ⊢;obtain ⟨T,hTp,c0,c1,c2,c3,c4,c5,c6,c7,c8,e,hI⟩:=ih q _ _ (by omega) h0 (by omega);obtain ⟨z1,e1,_,_⟩:=DataW.trod_int Tryz.underlying3 h1;obtain ⟨z2,e2,_,_⟩:=DataW.trod_int Tryz.underlying3 h2;simp at e e1 e2;obtain ⟨rfl,rfl,rfl,rfl,rfl,rfl,rfl,rfl,rfl⟩:=e;subst e1 e2;exact ⟨.mk T z1 z2,by show tpN m T≤_;rw [hI.tpUp (show q≤m by omega)];omega,_,_,_,_,_,_,_,_,_,rfl,hI.le (by omega)⟩
theorem obj_el {fuel m:Nat} (ih:TyIH enc W fuel) (hm:fuel≤m+1) {n:Nat} {cs:List Value} {d:DataW H} {ps:List MemPlace} (hn:n<fuel) (ht:DataW.trod enc Tryz.prog W 0 (fun _=>true) true n 95 cs=some (d,ps)) (hb:Rows.uptoBulk d≤1048576):∃ o,ObP W m o cs (Rows.uptoBulk d):=by
 obtain ⟨xs,q,rfl,hd,hl,hxn,hi⟩:=DataW.trod_struct Tryz.underlying95 ht;rw [cellsObT] at hl;have hn4:xs.length=4:=hxn;have h0:=hi 0 _ rfl;have h1:=hi 1 _ rfl;have h2:=hi 2 _ rfl;have h3:=hi 3 _ rfl
 match xs,hn4,cs,hl with
 | [y0,y1,y2,y3],_,[v0,v1,v2,v3,v4,v5,v6,v7,v8,v9,v10,v11],_=>
  simp [cellsTyT,cellsStsT,cellsTysT,cellsBosT] at h0 h1 h2 h3;have hd':d=_:=congrArg Prod.fst hd;rw [hd'] at hb ⊢;simp only [List.map_cons,List.map_nil,Rows.uptoBulk,Rows.uptoBulkAll] at hb ⊢;obtain ⟨ko,kc,ks,e0,k1,k2,k3,k4⟩:=texts_open h0
  obtain ⟨fo,fc,fs,fg,e1,f1,f2,fsm,f3⟩:=q0L (α:=TT) Tryz.underlying92 cellsTyT (by omega) h1 (fun T cs' B=>TyP W m T cs' B) (by
   intro n' cs' d' ps' hn' ht' hb';obtain ⟨T,hTp,c0,c1,c2,c3,c4,c5,c6,c7,c8,e,hI⟩:=ih n' cs' _ (by omega) ht' (by show Rows.uptoBulk d'≤_;omega);exact ⟨T,by rw [hI.tpUp (show n'≤m by omega)];exact hTp,c0,c1,c2,c3,c4,c5,c6,c7,c8,e,hI.le (by omega)⟩)
  obtain ⟨mo,mc,bs,e2,m1,m2,m3⟩:=bools_open h2;obtain ⟨R,hRp,c0,c1,c2,c3,c4,c5,c6,c7,c8,e3,hR⟩:=ih q _ _ (by omega) h3 (by omega);simp at e0 e1 e2 e3;obtain ⟨rfl,rfl,rfl,rfl,rfl,rfl,rfl,rfl,rfl⟩:=e3;subst e0 e1 e2
  have hfs:sumL (fs.map (tpN m))≤sumL ((List.range fs.length).map fg):=sum_idx (tpN m) fs fg (fun i hi=>by
   obtain ⟨b2,off2,_,_,hc⟩:=f3 (by omega);obtain ⟨cs',hP,_⟩:=hc i hi;exact hP.1)
  refine ⟨.mk ks fs bs R,by show ks.length+bs.length+tpN m R+sumL (fs.map (tpN m))≤_;rw [hR.tpUp (show q≤m by omega)];omega,ko,kc,fo,fc,mo,mc,_,_,_,_,_,_,_,_,_,rfl,⟨k1,f1,m1⟩,⟨?_,?_,?_,fun k hk=> ?_⟩,k4,m3,fun hf=> ?_,hR.le (by omega)⟩
  · show ks.length≤_;omega
  · show fs.length≤_;omega
  · show bs.length≤_;omega
  · have:=k3 k hk;omega
  · obtain ⟨b2,off2,e,hl2,hc⟩:=f3 hf;refine ⟨b2,off2,e,hl2,fun j hj=> ?_⟩;obtain ⟨cs',⟨_,d0,d1,d2,d3,d4,d5,d6,d7,d8,rfl,hT⟩,_,hcell⟩:=hc j hj;exact ⟨d0,d1,d2,d3,d4,d5,d6,d7,d8,c9_of hcell,hT⟩
theorem tt_open:∀ (fuel:Nat) (cs:List Value) (x:DataW H × List MemPlace),DataW.trod enc Tryz.prog W 0 (fun _=>true) true fuel 27 cs=some x→Rows.uptoBulk x.1≤1048576→∃ T,TyP W fuel T cs (Rows.uptoBulk x.1):=by
 intro fuel
 induction fuel using Nat.strongRecOn with
 | ind fuel ih=>
 intro cs x h hbk;have ih':TyIH enc W fuel:=fun n cs' x' hn ht hb=>ih n hn cs' x' ht hb;clear ih;obtain ⟨xs,m,hfu,hx,hl,hn,hi⟩:=DataW.trod_struct Tryz.underlying27 h;rw [cellsTyT] at hl;have hn9:xs.length=9:=hn;have h0:=hi 0 _ rfl;have h1:=hi 1 _ rfl;have h2:=hi 2 _ rfl;have h3:=hi 3 _ rfl;have h4:=hi 4 _ rfl;have h5:=hi 5 _ rfl;have h6:=hi 6 _ rfl;have h7:=hi 7 _ rfl;have h8:=hi 8 _ rfl
 match xs,hn9,cs,hl with
 | [y0,y1,y2,y3,y4,y5,y6,y7,y8],_,[v0,v1,v2,v3,v4,v5,v6,v7,v8],_=>
  simp [cells4T,cellsSpsT,cellsStsT,cellsArsT,cellsObsT] at h0 h1 h2 h3 h4 h5 h6 h7 h8;rw [hx] at hbk ⊢;simp only [List.map_cons,List.map_nil,Rows.uptoBulk,Rows.uptoBulkAll] at hbk ⊢;have hb0:=bulk_posT y0.1;obtain ⟨b0,e0,_⟩:=DataW.trod_bool Tryz.underlying4 h0;obtain ⟨b1,e1,_⟩:=DataW.trod_bool Tryz.underlying4 h1;obtain ⟨b2,e2,_⟩:=DataW.trod_bool Tryz.underlying4 h2;obtain ⟨b3,e3,_⟩:=DataW.trod_bool Tryz.underlying4 h3;obtain ⟨no,nc,ns,e4,n1,n2,n3,n4⟩:=spans_open h4;obtain ⟨b5,e5,_⟩:=DataW.trod_bool Tryz.underlying4 h5;obtain ⟨xo,xc,ts,e6,t1,t2,t3,t4⟩:=texts_open h6;obtain ⟨ao,ac,rs,rg,e7,r1,r2,rsm,r3⟩:=q0L (α:=AR) Tryz.underlying24 cellsArT (by omega) h7 (fun a cs' B=>ArP W m a cs' B) (fun n cs' d ps hn' ht hb=>arr_el ih' (by omega) (by omega) ht (by omega));obtain ⟨oo,oc,os,og,e8,o1,o2,osm,o3⟩:=q0L (α:=OB) Tryz.underlying25 cellsObT (by omega) h8 (fun o cs' B=>ObP W m o cs' B) (fun n cs' d ps hn' ht hb=>obj_el ih' (by omega) (by omega) ht (by omega));simp at e0 e1 e2 e3 e4 e5 e6 e7 e8;subst e0 e1 e2 e3 e4 e5 e6 e7 e8
  have hrs:sumL (rs.map fun a=>tpN m a.item)≤sumL ((List.range rs.length).map rg):=sum_idx (fun a:AR=>tpN m a.item) rs rg (fun i hi'=>by
   obtain ⟨b,off,_,_,hc⟩:=r3 (by omega);obtain ⟨cs',hP,_⟩:=hc i hi';exact hP.1)
  have hos:sumL (os.map fun o=>o.names.length+o.must.length+tpN m o.rest+sumL (o.fields.map (tpN m)))≤sumL ((List.range os.length).map og):=sum_idx (fun o:OB=>o.names.length+o.must.length+tpN m o.rest+sumL (o.fields.map (tpN m))) os og (fun i hi'=>by
   obtain ⟨b,off,_,_,hc⟩:=o3 (by omega);obtain ⟨cs',hP,_⟩:=hc i hi';exact hP.1)
  refine ⟨.mk b0 b1 b2 b3 b5 ns ts rs os,?_,_,_,_,_,_,_,_,_,_,rfl,?_⟩
  · rw [hfu];show 1+ts.length+ns.length+sumL (rs.map fun a=>tpN m a.item)+sumL (os.map fun o=>o.names.length+o.must.length+tpN m o.rest+sumL (o.fields.map (tpN m)))≤_;omega
  rw [hfu];refine ⟨no,nc,xo,xc,ao,ac,oo,oc,rfl,⟨n1,t1,r1,o1⟩,⟨?_,?_,?_,?_⟩,fun p hp=> ?_,fun k hk=> ?_,n4,t4,fun hp=> ?_,fun hp=> ?_⟩
  · show ns.length≤_;omega
  · show ts.length≤_;omega
  · show rs.length≤_;omega
  · show os.length≤_;omega
  · have:=n3 p hp;omega
  · have:=t3 k hk;omega
  · obtain ⟨b,off,e,hl2,hc⟩:=r3 hp;refine ⟨b,off,e,hl2,fun i hi'=> ?_⟩;obtain ⟨cs',⟨_,c0,c1,c2,c3,c4,c5,c6,c7,c8,rfl,hT⟩,_,hcell⟩:=hc i hi';exact ⟨c0,c1,c2,c3,c4,c5,c6,c7,c8,⟨hcell 0 (by omega),hcell 1 (by omega),hcell 2 (by omega),hcell 3 (by omega),hcell 4 (by omega),hcell 5 (by omega),hcell 6 (by omega),hcell 7 (by omega),hcell 8 (by omega)⟩,hcell 9 (by omega),hcell 10 (by omega),hT⟩
  · obtain ⟨b,off,e,hl2,hc⟩:=o3 hp;refine ⟨b,off,e,hl2,fun i hi'=> ?_⟩;obtain ⟨cs',⟨_,ko,kc,fo,fc,mo,mc,c0,c1,c2,c3,c4,c5,c6,c7,c8,rfl,p1,p2,p3,p4,p5,p6⟩,_,hcell⟩:=hc i hi'
    have sh:∀ j,j<9→W.cell? ⟨b,off+i*12+3+j,none⟩=([c0,c1,c2,c3,c4,c5,c6,c7,c8]:List Value)[j]? :=by
     intro j hj;have:=hcell (3+j) (by omega);rw [← Nat.add_assoc] at this;rw [this];rcases (show j=0∨j=1∨j=2∨j=3∨j=4∨j=5∨j=6∨j=7∨j=8 by omega) with rfl|rfl|rfl|rfl|rfl|rfl|rfl|rfl|rfl <;> rfl
    exact ⟨ko,kc,fo,fc,mo,mc,c0,c1,c2,c3,c4,c5,c6,c7,c8,⟨hcell 0 (by omega),hcell 1 (by omega),hcell 2 (by omega)⟩,c9_of sh,p1,p2,p3,p4,p5,p6⟩
end
end Go.Proofs.YtnokkmiaeacogaaGreat
