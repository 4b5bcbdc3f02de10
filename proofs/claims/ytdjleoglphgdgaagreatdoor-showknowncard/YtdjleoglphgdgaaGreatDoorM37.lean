import Derived.Test.YtdjleoglphgdgaaGreatDoorM36
import Derived.Deep.RegionHeld3
import Derived.Maps.AppendAt
set_option linter.unusedVariables false
set_option linter.unusedSimpArgs false
namespace Go.Proofs.YtdjleoglphgdgaaGreatDoor
open Go.RowKit Go.Shelf
attribute [local go_sem] Oper.semAt_some
set_option maxRecDepth 100000
set_option maxHeartbeats 12800000
theorem q0w {α β:Type} {x y:PM α} {f: α→PM β} {t o:Nat} (h:x t o=y t o):q07 x f t o=q07 y f t o:=by unfold q07;rw [h]
theorem q0g {α β γ:Type} (x:PM α) (g: α→PM β) (f: β→PM γ) (t o:Nat):q07 (q07 x g) f t o=q07 x (fun a=>q07 (g a) f) t o:=by
 unfold q07
 cases x t o with
 | ok a t' o'=>rfl
 | bad e q=>rfl
def NdE (D:Nat→Prop) (T:NT) (w':World) (v:Value):Prop:=∃ d:NV,v=d.v∧NdI D w' T d
def NodeA (B:Nat) (so:Option Addr) (sc:Nat) (ws:List Tok) (nb:Nat) (fn:FuncId) (args:Array Value) (m:Nat) (x:PM NT):Prop:=∀ (D:Nat→Prop) (u:World) (t o:Nat),(∀ b,u.heap.size≤b→D b)→(∀ b,D b→b≠B)→PX u B so sc ws nb t o→m≤t→Calls Tryz.prog fn args u fun e w'=>PxR B so sc ws nb u (NdE D) (x t o) e w'
def q1X (B:Nat) (so:Option Addr) (sc:Nat) (ws:List Tok) (nb:Nat) (fn:FuncId) (m:Nat) (x:PM NT):Prop:=NodeA B so sc ws nb fn #[.pointer (some ⟨B,0,none⟩)] m x
structure PO (B:Nat) (so:Option Addr) (sc:Nat) (ws:List Tok) (nb:Nat) (m:Nat) (P:PM NT) (O:Nat→PM NT):Prop where
 pipe:q1X B so sc ws nb 106 m P
 opd:∀ l:Nat,1≤l→l≤9→NodeA B so sc ws nb 225 #[.pointer (some ⟨B,0,none⟩),.int .i64 (l:Int)] m (O l)
 mp:Mv ws.length 0 P
 bp:Bl P
 mo:∀ l,1≤l→Mv ws.length 0 (O l)
 bo:∀ l,Bl (O l)
 tx:∀ t,(hrP ws t).text.length≤140737488355000
 nx:∀ t,(hrP ws t).at_≤1099511627776
section
variable {B:Nat} {so:Option Addr} {sc:Nat} {ws:List Tok} {nb:Nat} {m:Nat} {P:PM NT} {O:Nat→PM NT}
theorem groupX (h:PO B so sc ws nb (m+1) P O):q1X B so sc ws nb 270 m (q29 ws nb P):=by
 intro D u t o dn db hx hm;obtain ⟨R,hR⟩:∃ R,q29 ws nb P t o=R:=⟨_,rfl⟩;rw [hR];unfold q29 at hR;have HR:=hQz hR;have HPO:=hQz h;have HS0:=hQz (SB.new (Fl:=false) (tr:=[]) hx dn db (fun q hq=>by simp at hq));have HX:=hQz (And.intro hx.pat.le hx.pat.open_);have HM:=hQz hm;have hfl0:=Tryz.fldX0;have hfl1:=Tryz.fldX1;have hfl3:=Tryz.fldX3;clear hR h hx hm dn db;go_in;go_wp2_with fail;have HS1:=hQz (HS0.out.al0);refine PxR.on (enterX [40] _ HS1.out.px) (fun er q w hr hb=>⟨rfl,(HS1.out.bo.trans (Bo.ofBt hb)).toBt,by rw [← HR.out,q04 hr]⟩) ?_;intro x1 t1 o1 v w1 hr hb hp hE;replace HR:=hQz ((q02 hr).symm.trans HR.out);(try dsimp only at HR)
 have HL1:=hQz (q0I (nb:=nb) [40] _ HS1.out.px.pat.le _ _ _ _ hr);have HO1:=hQz (q0H (nb:=nb) [40] _ _ _ _ _ HS1.out.px.pat.open_ hr);have HQ1:=hQz hr;have HS2:=hQz (HS1.out.step hb hp);clear hb hp hr;unfold TkE at hE;subst hE;obtain ⟨kd1,pa1,fi1,tx1,er1⟩:=x1;unfold tokV;(try dsimp only at HR)
 dsimp only;go_wp2_with fail;refine PxR.on (HPO.out.pipe _ _ _ _ HS2.out.dnW HS2.out.dbW HS2.out.px (by have:=HL1.out;have:=HM.out;omega)) (fun er q w hr hb=>⟨rfl,(HS2.out.bo.trans (Bo.ofBt hb)).toBt,by rw [← HR.out,q04 hr]⟩) ?_;intro T2 t2 o2 v w2 hr hb hp hE;replace HR:=hQz ((q02 hr).symm.trans HR.out);(try dsimp only at HR)
 have HL2:=hQz (HPO.out.mp _ HS2.out.px.pat.le _ _ _ _ hr);have HO2:=hQz (HPO.out.bp _ _ _ _ _ HS2.out.px.pat.open_ hr);have HQ2:=hQz hr;have HS3:=hQz (HS2.out.step hb hp);clear hb hp hr;obtain ⟨d,rfl,hd⟩:=hE;have HS4:=hQz (HS3.out.add hd);clear hd;obtain ⟨op2,at2,vk2,tx2,nu2,vt2,io2,yo2,no2,ko2,iN2,ic2,yN2,yc2,nN2,nc2,kN2,kc2⟩:=d;unfold NV.v NV.l;dsimp only;obtain ⟨W3,hW3⟩:∃ W,w2.alloc (.cells #[.int .i64 op2,.int .i64 at2,.string tx2,.int .i64 vk2,.string nu2,.string vt2,.slice io2 iN2 ic2,.slice yo2 yN2 yc2,.slice no2 nN2 nc2,.slice ko2 kN2 kc2] 28)=W:=⟨_,rfl⟩;have HS5:=hQz (HS4.out.alloc [.int .i64 op2,.int .i64 at2,.string tx2,.int .i64 vk2,.string nu2,.string vt2,.slice io2 iN2 ic2,.slice yo2 yN2 yc2,.slice no2 nN2 nc2,.slice ko2 kN2 kc2] 28);rw [hW3] at HS5;go_wp2_with fail;refine PxR.on (q1p [41] (by have:=HO1.out;have:=HO2.out;omega) _ HS5.out.px) (fun er q w hr hb=>⟨rfl,(HS5.out.bo.trans (Bo.ofBt hb)).toBt,by rw [← HR.out,q04 hr]⟩) ?_;intro _x t4 o4 v w4 hr hb hp hE;replace HR:=hQz ((q02 hr).symm.trans HR.out);(try dsimp only at HR)
 have HL4:=hQz (q0u (nb:=nb) [41] _ HS5.out.px.pat.le _ _ _ _ hr);have HQ4:=hQz hr;have HS6:=hQz (HS5.out.step hb hp);clear hb hp hr;subst hE;have HLv:=HL4;obtain ⟨c0,c1,c2,c3,c4,c5,c6,c7,c8,c9⟩:=q00 HS6.out.bb0;obtain ⟨r0,r1,r2,r3,r4,r5,r6,r7,r8,r9⟩:=q00 HS6.out.bb1;obtain ⟨rf0,rf1,rf2,rf3,rf4,rf5,rf6,rf7,rf8,rf9⟩:=q03 HS6.out.bb1;go_wp2_with fail;refine SB.st10 HS6.out 1 rfl rfl fun WZ HZ=>q0C Tryz.results270 rfl rfl rfl HZ.bb1 ⟨HZ.bo.toBt,?_⟩;rw [← HR.out];exact ⟨⟨_,rfl,⟨op2,at2,vk2,tx2,nu2,vt2,io2,yo2,no2,ko2,iN2,ic2,yN2,yc2,nN2,nc2,kN2,kc2⟩,rfl,HZ.t0⟩,HZ.px⟩
end
theorem Tryz.infoN:(Tryz.prog.info? 28).map (fun i=>(i.zero,i.size,i.bytes))=some (some (.agg #[.int .i64 0,.int .i64 0,.string ⟨#[]⟩,.int .i64 0,.string ⟨#[]⟩,.string ⟨#[]⟩,.slice none 0 0,.slice none 0 0,.slice none 0 0,.slice none 0 0]),10,168):=by kernel_rfl
theorem q0Z {w:World} {g:Nat} {t:TypeId} {cs:List Value} (h:w.heap[g]? =some (.cells cs.toArray t (0,0))):∀ (j:Nat) u,cs[j]? =some u→w.cell? ((⟨g,0,none⟩:Addr).add j)=some u:=fun j u hu=>World.news_of_block (cs:=cs.toArray) h j u (by simpa using hu)
theorem q13 (d:NV):∀ u∈d.l,u.oneCell'=true:=by
 intro u hu;unfold NV.l at hu;simp only [List.mem_cons,List.not_mem_nil,or_false] at hu;rcases hu with rfl|rfl|rfl|rfl|rfl|rfl|rfl|rfl|rfl|rfl <;> rfl
theorem list_choose {α:Type} {Q:Nat→ α→Prop}:∀ n,(∀ i,i<n→∃ a,Q i a)→∃ l:List α,l.length=n∧∀ (i:Nat) a,l[i]? =some a→Q i a
 | 0,_=>⟨[],rfl,fun i a h=>by simp at h⟩
 | n+1,h=>by
  obtain ⟨l,hl,hq⟩:=list_choose n (fun i hi=>h i (by omega));obtain ⟨a,ha⟩:=h n (by omega);refine ⟨l++[a],by simp [hl],fun i b hb=> ?_⟩;by_cases hi:i<l.length
  · rw [List.getElem?_append_left hi] at hb;exact hq i b hb
  · rw [List.getElem?_append_right (by omega)] at hb;have hil:=(List.getElem?_eq_some_iff.1 hb).1;simp only [List.length_cons,List.length_nil] at hil;obtain rfl:i=n:=by omega
    rw [show i-l.length=0 by omega] at hb
    cases hb
    exact ha
theorem InN.nv {D:Nat→Prop} {W:World} {h:Nat} {T:NT} {v:Value} (hI:InN D W h T v):∃ d:NV,v=d.v:=by
 cases h with
 | zero=>exact hI.elim
 | succ k=>
  obtain ⟨io,icap,yo,ycap,no,nc,ko,kc,e,_⟩:=hI;exact ⟨⟨_,_,_,_,_,_,_,_,_,_,_,_,_,_,_,_,_,_⟩,e⟩
theorem NdI.kidsRow {D:Nat→Prop} {W:World} {T:NT} {d:NV} (h:NdI D W T d):∃ ks:List NV,ks.length=T.kids.length∧(d.ko=none→d.kN=0)∧(∀ a,d.ko=some a→∀ (j:Nat) u,(ks.flatMap NV.l)[j]? =some u→W.cell? (a.add j)=some u)∧∀ (i:Nat) T' d',T.kids[i]? =some T'→ks[i]? =some d'→NdI D W T' d':=by
 have hq:=h.eqs;obtain ⟨k,hI⟩:=h
 cases k with
 | zero=>exact hI.elim
 | succ k=>
  obtain ⟨io,icap,yo,ycap,no,nc,ko,kc,e,_,_,_,_,_,hk⟩:=hI
  have eko:d.ko=ko:=by
   unfold NV.v NV.l at e;simp only [Value.agg.injEq,List.cons.injEq,Array.mk.injEq,Value.int.injEq,Value.string.injEq,Value.slice.injEq,true_and,and_true] at e;exact e.2.2.2.2.2.2.2.2.2.1
  by_cases h0:0<T.kids.length
  · obtain ⟨b,off,e2,hb,hl,hc⟩:=hk h0
    obtain ⟨ks,hl2,hq2⟩:=list_choose (Q:=fun i (d':NV)=>∃ hi:i<T.kids.length,(∀ j,j<10→W.cell? ⟨b,off+i*10+j,none⟩=d'.l[j]?)∧InN D W k T.kids[i] d'.v) T.kids.length (fun i hi=>by
     obtain ⟨c,h1,h2⟩:=hc i hi;obtain ⟨d',ed⟩:=h2.nv;refine ⟨d',hi,fun j hj=> ?_,by rw [← ed];exact h2⟩;rw [h1 ⟨j,hj⟩]
     have:[c 0,c 1,c 2,c 3,c 4,c 5,c 6,c 7,c 8,c 9]=d'.l:=by
      unfold ndV NV.v at ed;injection ed with ed;exact congrArg Array.toList ed
     rw [← this]
     match j,hj with
     | 0,_=>rfl
     | 1,_=>rfl
     | 2,_=>rfl
     | 3,_=>rfl
     | 4,_=>rfl
     | 5,_=>rfl
     | 6,_=>rfl
     | 7,_=>rfl
     | 8,_=>rfl
     | 9,_=>rfl)
    refine ⟨ks,hl2,(fun e3=>by rw [eko,e2] at e3;cases e3),fun a ea j u hu=> ?_,fun i T' d' h1 h2=> ?_⟩
    · have ha:a=⟨b,off,none⟩:=by
       rw [eko,e2] at ea;injection ea with ea;exact ea.symm
      subst ha;have hjl:=(List.getElem?_eq_some_iff.1 hu).1;rw [nvf_len] at hjl;have hi:j / 10<ks.length:=by omega
      have h3:=nvf_get ks (j / 10) (j%10) ks[j / 10] (List.getElem?_eq_getElem hi) (by omega);rw [show j / 10*10+j%10=j by omega,hu] at h3;obtain ⟨_,h4,_⟩:=hq2 (j / 10) ks[j / 10] (List.getElem?_eq_getElem hi);have h5:=h4 (j%10) (by omega);rw [← h3] at h5
      rw [show ((⟨b,off,none⟩:Addr).add j)=⟨b,off+j / 10*10+j%10,none⟩ by
       unfold Addr.add
       split
       · rename_i e;subst e;simp
       · show (⟨b,off+j,none⟩:Addr)=_;rw [show off+j=off+j / 10*10+j%10 by omega]]
      exact h5
    · obtain ⟨hi,_,h4⟩:=hq2 i d' h2;obtain ⟨_,e5⟩:=List.getElem?_eq_some_iff.1 h1;rw [e5] at h4;exact ⟨k,h4⟩
  · refine ⟨[],(by simp;omega),(fun _=>by have:=hq.2.2.2.2.1;omega),(fun a _ j u hu=>by simp at hu),(fun i T' d' h1 h2=>by simp at h2)⟩
theorem addK_make {D D0:Nat→Prop} {W:World} {A T:NT} {d e:NV} {v:Value} {ks:List NV} (hA:NdI D W A d) (hl:ks.length=A.kids.length) (hk:∀ (i:Nat) T' d',A.kids[i]? =some T'→ks[i]? =some d'→NdI D0 W T' d') (hT:NdI D0 W T e)
 (hown:W.ownsRow 0 28 10 v (A.kids.length+1) (ks.flatMap NV.l++e.l)) (hD:∀ b,D0 b→b<W.heap.size→D b) (hg:∀ g,v.ownBlock=some g→D g∧g<W.heap.size) (hn:A.kids.length+1≤140737488355328):
 ∃ g kc,v= .slice (some ⟨g,0,none⟩) (A.kids.length+1) kc∧NdI D W (addK A T) { d with ko:=some ⟨g,0,none⟩,kN:=A.kids.length+1,kc:=kc }:=by
 have hrow:NRw D0 W v (A.kids++[T]) (ks++[e]):=by
  refine ⟨?_,by simp [hl],fun i T' d' h1 h2=> ?_⟩
  · rw [List.length_append,List.flatMap_append];simpa using hown
  · by_cases hi:i<A.kids.length
    · rw [List.getElem?_append_left hi] at h1;rw [List.getElem?_append_left (by omega)] at h2;exact hk i T' d' h1 h2
    · rw [List.getElem?_append_right (by omega)] at h1;rw [List.getElem?_append_right (by omega),hl] at h2;exact els1 hT (i-A.kids.length) T' d' h1 h2
 have hlen:(A.kids++[T]).length=A.kids.length+1:=by simp
 rcases hown.2 with ⟨_,h0⟩|⟨g,kc,cur,e1,_,hh,hle,_⟩
 · omega
 refine ⟨g,kc,e1,?_⟩;obtain ⟨h,hI⟩:=hA
 cases h with
 | zero=>exact hI.elim
 | succ h=>
  obtain ⟨io,icap,yo,ycap,no,nc,ko,kc0,e2,a1,a2,a3,_,a5,_⟩:=hI;obtain ⟨H,hH⟩:=NdI.heights (fun i T' d' h1 h2=>(hrow.els i T' d' h1 h2).weak hD) (A.kids++[T]).length;obtain ⟨hDg,hgl⟩:=hg g (by rw [e1];rfl);refine ⟨max h H+1,io,icap,yo,ycap,no,nc,some ⟨g,0,none⟩,kc,?_,a1,?_,a3,⟨by show (A.kids++[T]).length≤kc;omega,by show (A.kids++[T]).length≤_;omega⟩,a5,fun h0=>⟨g,0,rfl,hDg,hgl,fun i hi=> ?_⟩⟩
  · unfold NV.v NV.l at e2 ⊢;simp only [Value.agg.injEq,List.cons.injEq,Array.mk.injEq,Value.int.injEq,Value.string.injEq,Value.slice.injEq,true_and,and_true,addK,NT.op,NT.at_,NT.text,NT.value,NT.names,NT.kids,hlen] at e2 ⊢;obtain ⟨e0,e1,e2,e3,e4,e5,e6,e7,e8,_⟩:=e2;exact ⟨e0,e1,e2,e3,e4,e5,e6,e7,e8,by simp⟩
  · have:∀ n,h≤n→InV D W (n+1) A.value (.agg #[.int .i64 A.value.kind,.string A.value.num,.string A.value.text,.slice io A.value.items.length icap,.slice yo A.value.keys.length ycap]):=fun n hn=>by
     obtain ⟨k,rfl⟩:=Nat.exists_eq_add_of_le hn;clear hn
     induction k with
     | zero=>exact a2
     | succ k ih=>exact ih.up
    exact this _ (Nat.le_max_left _ _)
  · have hi':i<(A.kids++[T]).length:=hi;have hid:i<(ks++[e]).length:=by rw [hrow.len];exact hi'
    refine ⟨fun j=>(ks++[e])[i].l.get ⟨j.1,j.2⟩,fun j=> ?_,?_⟩
    · have:=hrow.cell (i:=i) (j:=j.1) (g:=g) (by rw [e1];rfl) (List.getElem?_eq_getElem hid) j.2;rw [Nat.zero_add,this];exact List.getElem?_eq_getElem (l:=(ks++[e])[i].l) j.2
    · have:=hH i (A.kids++[T])[i] (ks++[e])[i] hi' (List.getElem?_eq_getElem hi') (List.getElem?_eq_getElem hid);rw [NV.agg] at this;exact this.le (Nat.le_max_right _ _)
structure WI (D:Nat→Prop) (u:World) (T:NT) (d:NV) (wr:World):Prop where
 below:Below u.heap.size u wr
 sz:u.heap.size+2≤wr.heap.size
 part:wr.heap[u.heap.size]? =some (.cells d.l.toArray 28 (0,0))
 res:wr.heap[u.heap.size+1]? =some (.cells #[.int .i64 0,.int .i64 0,.string ⟨#[]⟩,.int .i64 0,.string ⟨#[]⟩,.string ⟨#[]⟩,.slice none 0 0,.slice none 0 0,.slice none 0 0,.slice none 0 0] 28 (0,0))
 tree:NdI (fun b=>D b∧b≠u.heap.size∧b≠u.heap.size+1) wr T d
theorem withinP_drop (Ts:List NT) (T:NT) (k:Nat) (hk:k<Ts.length):q0q (Ts.drop k) T=addK Ts[k] (q0q (Ts.drop (k+1)) T):=by
 rw [List.drop_eq_getElem_cons hk];rfl
theorem q27 (D:Nat→Prop) (v:Value) (Ts:List NT) (ds:List NV) (T:NT) (d:NV) (u:World) (dn:∀ b,u.heap.size≤b→D b) (hr:NRw D u v Ts ds) (hfull:∀ (i:Nat) d,ds[i]? =some d→d.kc=d.kN∧d.kN≤1000) (hN:Ts.length≤16777216) (hd:NdI D u T d):
 Calls Tryz.prog 157 #[v,d.v] u fun e w'=>∃ d':NV,e= .returned d'.v∧Below u.heap.size u w'∧NdI D w' (q0q Ts T) d':=by
 obtain ⟨i0,hi0,hz0,hz1,hz2⟩:=info_parts Tryz.infoN
 obtain ⟨vo,vc,rfl,hvo⟩:∃ vo vc,v= .slice vo Ts.length vc∧(0<Ts.length→∃ g,vo=some ⟨g,0,none⟩∧Ts.length≤vc):=by
  rcases hr.own.2 with ⟨e,h0⟩|⟨g,cap,cur,e,_,_,h1,_⟩
  · exact ⟨none,0,by rw [e,h0],fun h=>by omega⟩
  · exact ⟨_,cap,e,fun _=>⟨g,rfl,h1⟩⟩
 have HW0:Hid (∀ (W:World),(u.alloc (.cells d.l.toArray 28)).alloc (.cells #[.int .i64 0,.int .i64 0,.string ⟨#[]⟩,.int .i64 0,.string ⟨#[]⟩,.string ⟨#[]⟩,.slice none 0 0,.slice none 0 0,.slice none 0 0,.slice none 0 0] 28)=W→WI D u T d W):=fun W hW=>by
  subst hW;have hb:Below u.heap.size u ((u.alloc (.cells d.l.toArray 28)).alloc (.cells #[.int .i64 0,.int .i64 0,.string ⟨#[]⟩,.int .i64 0,.string ⟨#[]⟩,.string ⟨#[]⟩,.slice none 0 0,.slice none 0 0,.slice none 0 0,.slice none 0 0] 28)):=(q0a u _).alloc (by simp) _;refine ⟨hb,by simp,(Below.heap_alloc _ _ _ (by simp)).trans (heap_alloc_new u _),?_,hd.keep hb.size (fun b _ hl=>hb.block b hl) (fun b h hl=>⟨h,by omega,by omega⟩)⟩;have:=heap_alloc_new (u.alloc (.cells d.l.toArray 28)) (.cells #[.int .i64 0,.int .i64 0,.string ⟨#[]⟩,.int .i64 0,.string ⟨#[]⟩,.string ⟨#[]⟩,.slice none 0 0,.slice none 0 0,.slice none 0 0,.slice none 0 0] 28);rwa [World.size_alloc] at this
 have HRow:=hQz hr;have HF:=hQz hfull;have Hdn:=hQz dn
 have HNN:Hid (q0q (Ts.drop Ts.length) T=T):=by
  show _=_;rw [List.drop_of_length_le (Nat.le_refl _)];rfl
 obtain ⟨N,hNe⟩:∃ N,Ts.length=N:=⟨_,rfl⟩;rw [hNe] at hvo hN ⊢;have HNe:=hQz hNe;have HVo:=hQz hvo;clear hr hfull dn hd hNe hvo;obtain ⟨op0,at0,vk0,tx0,nu0,vt0,io0,yo0,no0,ko0,iN0,ic0,yN0,yc0,nN0,nc0,kN0,kc0⟩:=d;unfold NV.v NV.l;unfold NV.l at HW0;dsimp only at HW0 ⊢;go_in;go_wp2_with fail;have HW1:=hQz (HW0.out _ rfl)
 go_loopw [5] (fun i wr=>∃ (j:Nat) (z:Int) (d':NV),i= .int .i64 z∧Hid (z=(j:Int)-1)∧Hid (j≤N)∧Hid (WI D u (q0q (Ts.drop j) T) d' wr)) (fun i _=>((intOf i)+1).toNat)
 case atStart=>
  refine ⟨N,(N:Int)-1,⟨op0,at0,vk0,tx0,nu0,vt0,io0,yo0,no0,ko0,iN0,ic0,yN0,yc0,nN0,nc0,kN0,kc0⟩,rfl,rfl,Nat.le_refl N,?_⟩;show WI D u (q0q (Ts.drop N) T) _ _;rw [← HNe.out,HNN.out];exact HW1.out
 case round=>
  clear HW0 HW1 HNN;obtain ⟨j,z,d',rfl,Hz,HJ,HI⟩:=hrel;obtain ⟨op1,at1,vk1,tx1,nu1,vt1,io1,yo1,no1,ko1,iN1,ic1,yN1,yc1,nN1,nc1,kN1,kc1⟩:=d';unfold NV.l at *;by_cases hz:0≤z
  · obtain ⟨k,rfl⟩:∃ k,j=k+1:=⟨j-1,by have:=Hz.out;omega⟩;obtain rfl:z=(k:Int):=by have:=Hz.out;omega
    have hkN:k<N:=by have:=HJ.out;omega
    have hkT:k<Ts.length:=by rw [HNe.out];exact hkN
    have hkd:k<ds.length:=by rw [HRow.out.len];exact hkT
    obtain ⟨gw,e1,hvc⟩:=HVo.out (by omega);subst e1;obtain ⟨f1,f2⟩:=HF.out k ds[k] (List.getElem?_eq_getElem hkd);have hel:=HRow.out.els k Ts[k] ds[k] (List.getElem?_eq_getElem hkT) (List.getElem?_eq_getElem hkd)
    have hgl:gw<u.heap.size:=by
     rcases HRow.out.own.2 with ⟨e,_⟩|⟨g,cap,cur,e,_,hh,_⟩
     · cases e
     · injection e with e1;injection e1 with e1;injection e1 with e1;subst e1;exact (Array.getElem?_eq_some_iff.1 hh).1
    have hcell:∀ j,j<10→wr.cell? ⟨gw,k*10+j,none⟩=ds[k].l[j]? :=fun j hj=>(World.cell?_of_block (a:=⟨gw,k*10+j,none⟩) (HI.out.below.block gw hgl)).trans (HRow.out.cell rfl (List.getElem?_eq_getElem hkd) hj);have hel2:NdI (fun b=>D b∧b≠u.heap.size∧b≠u.heap.size+1) wr Ts[k] ds[k]:=hel.keep HI.out.below.size (fun b _ hl=>HI.out.below.block b hl) (fun b h hl=>⟨h,by omega,by omega⟩);have HWd:Hid (q0q (Ts.drop k) T=addK Ts[k] (q0q (Ts.drop (k+1)) T)):=withinP_drop Ts T k hkT;generalize q0q (Ts.drop (k+1)) T=TB at *;generalize Ts[k]=TK at *;generalize ds[k]=dk at *;obtain ⟨op2,at2,vk2,tx2,nu2,vt2,io2,yo2,no2,ko2,iN2,ic2,yN2,yc2,nN2,nc2,kN2,kc2⟩:=dk;obtain ⟨ks,q1,q2,q3,q4⟩:=hel2.kidsRow;have q5:=hel2.eqs.2.2.2.2.1;dsimp only at f1 f2 q2 q3 q5;subst f1;obtain ⟨k0,k1,k2,k3,k4,k5,k6,k7,k8,k9⟩:wr.cell? ⟨gw,k*10,none⟩=some (.int .i64 op2)∧wr.cell? ⟨gw,k*10+1,none⟩=some (.int .i64 at2)∧wr.cell? ⟨gw,k*10+2,none⟩=some (.string tx2)∧wr.cell? ⟨gw,k*10+3,none⟩=some (.int .i64 vk2)∧wr.cell? ⟨gw,k*10+4,none⟩=some (.string nu2)∧wr.cell? ⟨gw,k*10+5,none⟩=some (.string vt2)∧wr.cell? ⟨gw,k*10+6,none⟩=some (.slice io2 iN2 ic2)∧wr.cell? ⟨gw,k*10+7,none⟩=some (.slice yo2 yN2 yc2)∧wr.cell? ⟨gw,k*10+8,none⟩=some (.slice no2 nN2 nc2)∧wr.cell? ⟨gw,k*10+9,none⟩=some (.slice ko2 kc2 kc2):=⟨hcell 0 (by decide),hcell 1 (by decide),hcell 2 (by decide),hcell 3 (by decide),hcell 4 (by decide),hcell 5 (by decide),hcell 6 (by decide),hcell 7 (by decide),hcell 8 (by decide),hcell 9 (by decide)⟩;have hkk:(0:Int)≤(k:Int)∧(k:Int)<(N:Int):=by omega
    obtain ⟨hk1,hk2⟩:=hkk;have HEl:=hQz (And.intro hel2 (And.intro q1 (And.intro q2 (And.intro q3 (And.intro q4 (And.intro q5 f2))))));clear hcell hel hel2 hgl HVo q1 q2 q3 q4 q5 hkT hkd f2 Hz HJ;obtain ⟨W1,hW1⟩:∃ W,wr.alloc (.cells #[.int .i64 op2,.int .i64 at2,.string tx2,.int .i64 vk2,.string nu2,.string vt2,.slice io2 iN2 ic2,.slice yo2 yN2 yc2,.slice no2 nN2 nc2,.slice ko2 kc2 kc2] 28)=W:=⟨_,rfl⟩;have B1:Below wr.heap.size wr W1:=by rw [← hW1];exact q0a wr _
    have s1:W1.heap.size=wr.heap.size+1:=by rw [← hW1];simp
    have o1:W1.heap[wr.heap.size]? =some (.cells #[.int .i64 op2,.int .i64 at2,.string tx2,.int .i64 vk2,.string nu2,.string vt2,.slice io2 iN2 ic2,.slice yo2 yN2 yc2,.slice no2 nN2 nc2,.slice ko2 kc2 kc2] 28 (0,0)):=by rw [← hW1];exact heap_alloc_new wr _
    have p1:=(B1.block _ (by have:=HI.out.sz;omega)).trans HI.out.part;have r1:=(B1.block _ (by have:=HI.out.sz;omega)).trans HI.out.res;obtain ⟨x0,x1,x2,x3,x4,x5,x6,x7,x8,x9⟩:=q00 o1;obtain ⟨b0,b1,b2,b3,b4,b5,b6,b7,b8,b9⟩:=q00 p1;have xa:∀ x,(W1.alloc x).heap[wr.heap.size]? =some (.cells #[.int .i64 op2,.int .i64 at2,.string tx2,.int .i64 vk2,.string nu2,.string vt2,.slice io2 iN2 ic2,.slice yo2 yN2 yc2,.slice no2 nN2 nc2,.slice ko2 kc2 kc2] 28 (0,0)):=fun x=>(Below.heap_alloc _ _ _ (by omega)).trans o1;have HW1:=hQz (And.intro B1 (And.intro s1 (And.intro o1 (And.intro p1 r1))));have HXA:=hQz xa
    have HC1:Hid (∀ a,ko2=some a→∀ (j:Nat) x,(ks.flatMap NV.l)[j]? =some x→∀ y,(W1.alloc y).cell? (a.add j)=some x):=fun a ea j x hx y=>by
     have:=HEl.out.2.2.2.1 a ea j x hx
     have hbl:(a.add j).block<wr.heap.size:=by
      obtain ⟨o,ho,_⟩:=q28 this;exact (Array.getElem?_eq_some_iff.1 ho).1
     exact (World.cell?_of_block (a:=a.add j) ((Below.heap_alloc _ _ _ (by omega)).trans (B1.block _ hbl))).trans this
    clear B1 s1 o1 p1 r1 xa;go_wp2_with (at_builtin;go_loud (refine wpList_append_grows _ rfl _ _ 26 rfl 28 i0 (.agg #[.int .i64 0,.int .i64 0,.string ⟨#[]⟩,.int .i64 0,.string ⟨#[]⟩,.string ⟨#[]⟩,.slice none 0 0,.slice none 0 0,.slice none 0 0,.slice none 0 0]) 10 168 Tryz.underlying26 hi0 hz0 hz1 hz2 rfl (by decide) ko2 kc2 kc2 (ks.flatMap NV.l) rfl (by intro h;have:=HEl.out.2.2.1 h;exact ⟨this,this⟩) (by rw [nvf_len,HEl.out.2.1,HEl.out.2.2.2.2.2.1]) (by intro b hb j x hj;exact HC1.out b hb j x hj _) ⟨W1.heap.size,0,none⟩ 1 1 (NV.l ⟨op1,at1,vk1,tx1,nu1,vt1,io1,yo1,no1,ko1,iN1,ic1,yN1,yc1,nN1,nc1,kN1,kc1⟩) rfl rfl (q0Z (heap_alloc_new W1 _)) (q13 _) (by omega) (by have:=HEl.out.2.2.2.2.2.2;unfold maxLen;omega) (by have:=HEl.out.2.2.2.2.2.2;omega) ?_));intro v' w5 hown hgrow;obtain ⟨B1,s1,o1,p1,r1⟩:=HW1.out;have hsz:=HI.out.sz;have B5:Below (W1.heap.size+1) (W1.alloc (.cells #[.int .i64 op1,.int .i64 at1,.string tx1,.int .i64 vk1,.string nu1,.string vt1,.slice io1 iN1 ic1,.slice yo1 yN1 yc1,.slice no1 nN1 nc1,.slice ko1 kN1 kc1] 28)) w5:=⟨hgrow.os,hgrow.tape,hgrow.output,by simpa using hgrow.size,fun k hk=>hgrow.block k (by simp;omega) (by simp)⟩;have B15:Below W1.heap.size W1 w5:=(q0a W1 _).trans (B5.mono (by omega));have Bw5:Below wr.heap.size wr w5:=B1.trans (B15.mono (by omega));have o5:=(B15.block _ (by omega)).trans o1;have p5:=(B15.block _ (by omega)).trans p1;have r5:=(B15.block _ (by omega)).trans r1
    have hown0:w5.ownsRow 0 28 10 v' (TK.kids.length+1) (ks.flatMap NV.l++NV.l ⟨op1,at1,vk1,tx1,nu1,vt1,io1,yo1,no1,ko1,iN1,ic1,yN1,yc1,nN1,nc1,kN1,kc1⟩):=by
     rw [← HEl.out.2.2.2.2.2.1];refine ⟨hown.1,?_⟩;rcases hown.2 with h0|⟨g,cap,cur,e1,e2,e3⟩
     · exact .inl h0
     · exact .inr ⟨g,cap,cur,e1,Nat.zero_le _,e3⟩
    have hgv:∀ g,v'.ownBlock=some g→W1.heap.size+1≤g∧g<w5.heap.size:=fun g hg=>by
     rcases hown.2 with ⟨e0,_⟩|⟨g',cap,cur,e1,e2,e3,_⟩
     · rw [e0] at hg;cases hg
     · rw [e1] at hg;have:g'=g:=by injection hg
       subst this;exact ⟨by simpa using e2,(Array.getElem?_eq_some_iff.1 e3).1⟩
    have kee:∀ (T':NT) (d':NV),NdI (fun b=>D b∧b≠u.heap.size∧b≠u.heap.size+1) wr T' d'→NdI (fun b=>(D b∧b≠u.heap.size∧b≠u.heap.size+1)∧b≠wr.heap.size) w5 T' d':=fun T' d' h=>h.keep Bw5.size (fun b _ hl=>Bw5.block b hl) (fun b hb hl=>⟨hb,by omega⟩)
    obtain ⟨g',c',ev,hnew⟩:=addK_make (D:=fun b=>(D b∧b≠u.heap.size∧b≠u.heap.size+1)∧b≠wr.heap.size) (D0:=fun b=>(D b∧b≠u.heap.size∧b≠u.heap.size+1)∧b≠wr.heap.size) (kee _ _ HEl.out.1) HEl.out.2.1 (fun i T' d' h1 h2=>kee _ _ (HEl.out.2.2.2.2.1 i T' d' h1 h2)) (kee _ _ HI.out.tree) hown0 (fun b hb _=>hb) (fun g hg=>by
     obtain ⟨h1,h2⟩:=hgv g hg;exact ⟨⟨⟨Hdn.out g (by omega),by omega,by omega⟩,by omega⟩,h2⟩) (by rw [← HEl.out.2.2.2.2.2.1];have:=HEl.out.2.2.2.2.2.2;omega)
    have hgg:=hgv g' (by rw [ev];rfl);have eN:=HEl.out.2.2.2.2.2.1;rw [← eN] at ev hnew;subst ev;have HNew:=hQz hnew;obtain ⟨W6,hW6⟩:∃ W,w5.setCell ⟨wr.heap.size,9,none⟩ (.slice (some ⟨g',0,none⟩) (kc2+1) c')=W:=⟨_,rfl⟩;have P6:=q15 o5 hW6;have p6:=(P6.rest u.heap.size (by omega)).trans p5;have r6:=(P6.rest (u.heap.size+1) (by omega)).trans r5;have HG:=hQz (And.intro Bw5 (And.intro P6 (And.intro p6 (And.intro r6 (And.intro hsz hgg)))));clear x0 x1 x2 x3 x4 x5 x6 x7 x8 x9 b0 b1 b2 b3 b4 b5 b6 b7 b8 b9 k0 k1 k2 k3 k4 k5 k6 k7 k8 k9;obtain ⟨x0,x1,x2,x3,x4,x5,x6,x7,x8,x9⟩:=q00 o5;obtain ⟨xf0,xf1,xf2,xf3,xf4,xf5,xf6,xf7,xf8,xf9⟩:=q03 o5;obtain ⟨y0,y1,y2,y3,y4,y5,y6,y7,y8,y9⟩:=q00 P6.new;obtain ⟨b0,b1,b2,b3,b4,b5,b6,b7,b8,b9⟩:=q00 p6;obtain ⟨bf0,bf1,bf2,bf3,bf4,bf5,bf6,bf7,bf8,bf9⟩:=q03 p6;clear hown hown0 hgrow B5 B15 Bw5 o5 p5 r5 kee hnew hgv P6 p6 r6 hsz hgg B1 s1 o1 p1 r1 eN;go_wp2_with fail;generalize hzZ:((((((((((W6).setCell ⟨u.heap.size,0,none⟩ (.int .i64 op2)).setCell ⟨u.heap.size,1,none⟩ (.int .i64 at2)).setCell ⟨u.heap.size,2,none⟩ (.string tx2)).setCell ⟨u.heap.size,3,none⟩ (.int .i64 vk2)).setCell ⟨u.heap.size,4,none⟩ (.string nu2)).setCell ⟨u.heap.size,5,none⟩ (.string vt2)).setCell ⟨u.heap.size,6,none⟩ (.slice io2 iN2 ic2)).setCell ⟨u.heap.size,7,none⟩ (.slice yo2 yN2 yc2)).setCell ⟨u.heap.size,8,none⟩ (.slice no2 nN2 nc2)).setCell ⟨u.heap.size,9,none⟩ ((.slice (some ⟨g',0,none⟩) (kc2+1) c'))=W7;have P7:=q0J HG.out.2.2.1 hzZ;go_roundw
    case rel=>
     obtain ⟨Bw5,P6,p6,r6,hsz,hgg⟩:=HG.out;refine ⟨k,(k:Int)-1,{ op:=op2,at_:=at2,vk:=vk2,tx:=tx2,nu:=nu2,vt:=vt2,io:=io2,yo:=yo2,no:=no2,ko:=some ⟨g',0,none⟩,iN:=iN2,ic:=ic2,yN:=yN2,yc:=yc2,nN:=nN2,nc:=nc2,kN:=kc2+1,kc:=c' },by go_num,rfl,Nat.le_of_lt hkN,?_⟩;show WI D u (q0q (Ts.drop k) T) _ _;rw [HWd.out];have B7:Below u.heap.size u W7:=(HI.out.below.trans (Bw5.mono (by omega))).trans ((P6.below (by omega)).trans (P7.below (by omega)));refine ⟨B7,by rw [P7.size,P6.size];have:=Bw5.size;omega,P7.new,(P7.rest _ (by omega)).trans r6,?_⟩;exact HNew.out.keep (by rw [P7.size,P6.size];exact Nat.le_refl _) (fun b hb _=>(P7.rest b hb.1.2.1).trans (P6.rest b hb.2)) (fun b hb _=>hb.1)
    case measure=>simp [intOf]
  · have hj:j=0:=by have:=Hz.out;omega
    subst hj;obtain ⟨b0,b1,b2,b3,b4,b5,b6,b7,b8,b9⟩:=q00 HI.out.part;obtain ⟨n0,n1,n2,n3,n4,n5,n6,n7,n8,n9⟩:=q00 HI.out.res;obtain ⟨f0,f1,f2,f3,f4,f5,f6,f7,f8,f9⟩:=q03 HI.out.res;have hz2:z<0:=by omega
    clear Hz HJ;go_wp2_with fail;generalize hzZ:((((((((((wr).setCell ⟨u.heap.size+1,0,none⟩ (.int .i64 op1)).setCell ⟨u.heap.size+1,1,none⟩ (.int .i64 at1)).setCell ⟨u.heap.size+1,2,none⟩ (.string tx1)).setCell ⟨u.heap.size+1,3,none⟩ (.int .i64 vk1)).setCell ⟨u.heap.size+1,4,none⟩ (.string nu1)).setCell ⟨u.heap.size+1,5,none⟩ (.string vt1)).setCell ⟨u.heap.size+1,6,none⟩ (.slice io1 iN1 ic1)).setCell ⟨u.heap.size+1,7,none⟩ (.slice yo1 yN1 yc1)).setCell ⟨u.heap.size+1,8,none⟩ (.slice no1 nN1 nc1)).setCell ⟨u.heap.size+1,9,none⟩ (.slice ko1 kN1 kc1)=WZ;have PZ:=q0J HI.out.res hzZ;obtain ⟨m0,m1,m2,m3,m4,m5,m6,m7,m8,m9⟩:=q00 PZ.new;refine bodyPost_ret (v:= .agg #[.int .i64 op1,.int .i64 at1,.string tx1,.int .i64 vk1,.string nu1,.string vt1,.slice io1 iN1 ic1,.slice yo1 yN1 yc1,.slice no1 nN1 nc1,.slice ko1 kN1 kc1]) (by simp [results,Tryz.results157,go_sem,m0,m1,m2,m3,m4,m5,m6,m7,m8,m9]) rfl ?_;refine ⟨⟨op1,at1,vk1,tx1,nu1,vt1,io1,yo1,no1,ko1,iN1,ic1,yN1,yc1,nN1,nc1,kN1,kc1⟩,rfl,HI.out.below.trans (PZ.below (by omega)),?_⟩;exact HI.out.tree.keep (by rw [PZ.size];exact Nat.le_refl _) (fun b hb _=>PZ.rest b hb.2.2) (fun b hb _=>hb.1)
end Go.Proofs.YtdjleoglphgdgaaGreatDoor
namespace Go.Proofs.YtdjleoglphgdgaaGreatDoor
open Go.RowKit Go.Shelf
set_option maxRecDepth 100000
set_option maxHeartbeats 12800000
section
variable {Fl:Bool} {D:Nat→Prop} {r0:Option Nat} {w W W':World} {B:Nat} {so:Option Addr} {sc:Nat} {ws:List Tok} {nb t o:Nat} {bx:List (Nat × List Value × TypeId)} {rv:Value} {Ts:List NT} {tr:List (NT × NV)}
theorem SB.app (h:SB Fl D r0 w B so sc ws nb t o bx rv Ts tr W) {ds:List NV} (hr:NRw (Dm D bx rv) W rv Ts ds) {Us:List NT} {es:List NV} (hl:es.length=Us.length) (he:∀ (i:Nat) T d,Us[i]? =some T→es[i]? =some d→NdI (Dm D bx rv) W T d) (hfu:Fl=true→∀ (i:Nat) d,es[i]? =some d→d.kc=d.kN∧d.kN≤1000) (X:Obj)
 {v':Value} (hown:W'.ownsRow 0 28 10 v' (Ts.length+Us.length) (ds.flatMap NV.l++es.flatMap NV.l)) (hg:(W.alloc X).grownBy W' rv.ownBlock) (hat:v'.ownBlock=rv.ownBlock∨v'.ownBlock=some (W.heap.size+1)):
 SB Fl D r0 w B so sc ws nb t o bx v' (Ts++Us) tr W':=by
 have hB:=h.hB;have hsz:W.heap.size≤W'.heap.size:=by have:=hg.size;simp at this;omega
 have hX:(W.alloc X).heap.size=W.heap.size+1:=by simp
 have hblk:∀ k,k<W.heap.size→rv.ownBlock≠some k→W'.heap[k]? =W.heap[k]? :=fun k hk hn=>(hg.block k (by omega) (fun e=>hn e.symm)).trans (Below.heap_alloc _ _ _ hk);have hs:∀ b,Dm D bx rv b→b<W.heap.size→W'.heap[b]? =W.heap[b]? :=fun b hd hl=>hblk b hl hd.2.2
 have hlo:∀ b,Dm D bx rv b→b<W.heap.size→Dm D bx v' b:=fun b hd hl=>⟨hd.1,hd.2.1,by
  rcases hat with e|e
  · rw [e];exact hd.2.2
  · rw [e];intro e2;injection e2 with e2;omega⟩
 have hbo:Bo B r0 w W':=⟨hg.os.trans h.bo.os,hg.tape.trans h.bo.tape,hg.output.trans h.bo.output,Nat.le_trans h.bo.size hsz,fun k hk h1 h2=>(hblk k (Nat.lt_of_lt_of_le hk h.bo.size) (fun e=>by
  rcases (h.rok k e).1 with h3|h3
  · omega
  · exact h2 h3)).trans (h.bo.block k hk h1 h2)⟩
 have hrB:rv.ownBlock≠some B:=fun e=>(h.rok B e).2.1 rfl;have hBW:B<W.heap.size:=Nat.lt_of_lt_of_le hB h.bo.size;refine ⟨hbo,?_,fun p hp=> ?_,h.apart,⟨ds++es,?_,?_,fun i T d h1 h2=> ?_⟩,fun g hgv=> ?_,h.r0k,fun q hq=>(h.trs q hq).keep hsz hs hlo,h.dn,h.db,hB,h.p0,fun e=> ?_⟩
 · obtain ⟨t0,o0,h0⟩:=h.p0;exact PX.of0 h0 hbo h.r0k ((hblk B hBW hrB).trans h.px.pat.box) h.px.pat.le h.px.pat.open_
 · obtain ⟨k1,k2,k3⟩:=h.bxs p hp;exact ⟨k1,Nat.lt_of_lt_of_le k2 hsz,(hblk p.1 k2 (fun e=>(h.rok _ e).2.2.2 p hp rfl)).trans k3⟩
 · rw [List.length_append,List.flatMap_append];exact hown
 · rw [List.length_append,List.length_append,hr.len,hl]
 · by_cases hi:i<Ts.length
   · rw [List.getElem?_append_left hi] at h1;rw [List.getElem?_append_left (by rw [hr.len];exact hi)] at h2;exact (hr.els i T d h1 h2).keep hsz hs hlo
   · rw [List.getElem?_append_right (by omega)] at h1;rw [List.getElem?_append_right (by rw [hr.len];omega),hr.len] at h2;exact (he _ T d h1 h2).keep hsz hs hlo
 · rcases hat with e|e
   · rw [e] at hgv;obtain ⟨k1,k2,k3,k4⟩:=h.rok g hgv;exact ⟨k1,k2,Nat.lt_of_lt_of_le k3 hsz,k4⟩
   · rw [e] at hgv;injection hgv with hgv;subst hgv;refine ⟨.inl (by have:=h.bo.size;omega),by omega,?_,fun p hp=>by have:=(h.bxs p hp).2.1;omega⟩;rcases hown.2 with ⟨e2,_⟩|⟨g',cap,cur,e2,_,hh,_⟩
     · rw [e2] at e;cases e
     · rw [e2] at e;injection e with e;have:g'=W.heap.size+1:=e;rw [← this];exact (Array.getElem?_eq_some_iff.1 hh).1
 · intro g hgv i hi;rw [List.length_append] at hi
   have hrow:NRw (fun _=>True) W' v' (Ts++Us) (ds++es):=by
    refine ⟨by rw [List.length_append,List.flatMap_append];exact hown,by rw [List.length_append,List.length_append,hr.len,hl],fun i T d h1 h2=> ?_⟩;by_cases hi:i<Ts.length
    · rw [List.getElem?_append_left hi] at h1;rw [List.getElem?_append_left (by rw [hr.len];exact hi)] at h2;exact (hr.els i T d h1 h2).keep hsz hs (fun _ _ _=>trivial)
    · rw [List.getElem?_append_right (by omega)] at h1;rw [List.getElem?_append_right (by rw [hr.len];omega),hr.len] at h2;exact (he _ T d h1 h2).keep hsz hs (fun _ _ _=>trivial)
   have hid:i<(ds++es).length:=by rw [List.length_append,hr.len,hl];exact hi
   have hc:=hrow.cell (i:=i) (j:=9) hgv (List.getElem?_eq_getElem hid) (by decide);rw [hc]
   have hfull:((ds++es)[i]).kc=((ds++es)[i]).kN∧((ds++es)[i]).kN≤1000:=by
    by_cases hi2:i<ds.length
    · rw [List.getElem_append_left hi2];have hi3:i<Ts.length:=by rw [← hr.len];exact hi2
      rcases hr.own.2 with ⟨e1,e2⟩|⟨g',cap,cur,e1,_⟩
      · omega
      · obtain ⟨ko,k,h1,h2⟩:=h.fu e g' (by rw [e1];rfl) i hi3;have h3:=hr.cell (i:=i) (j:=9) (g:=g') (by rw [e1];rfl) (List.getElem?_eq_getElem hi2) (by decide);rw [h3] at h2;have h4:Value.slice ds[i].ko ds[i].kN ds[i].kc= .slice ko k k:=Option.some.inj h2;injection h4 with h5 h6 h7;exact ⟨by rw [h6,h7],by rw [h6];exact h1⟩
    · rw [List.getElem_append_right (by omega)];exact hfu e (i-ds.length) _ (List.getElem?_eq_getElem (by rw [List.length_append] at hid;omega))
   exact ⟨((ds++es)[i]).ko,((ds++es)[i]).kN,hfull.2,by
    show some (Value.slice ((ds++es)[i]).ko ((ds++es)[i]).kN ((ds++es)[i]).kc)=_;rw [hfull.1]⟩
theorem SB.newR (h:PX w B so sc ws nb t o) (dn:∀ b,w.heap.size≤b→D b) (db:∀ b,D b→b≠B) {ds:List NV} (hr:NRw (Dm D [] rv) w rv Ts ds) (hk:∀ g,rv.ownBlock=some g→g<w.heap.size∧g≠B∧g≠2∧∀ off,0<ws.length→so≠some ⟨g,off,none⟩) (ht:∀ q∈tr,NdI (Dm D [] rv) w q.1 q.2):SB false D rv.ownBlock w B so sc ws nb t o [] rv Ts tr w:=
 ⟨Bo.refl _ _ _,h,(fun p hp=>by simp at hp),List.Pairwise.nil,⟨ds,hr⟩,(fun g hg=>⟨.inr hg,(hk g hg).2.1,(hk g hg).1,fun p hp=>by simp at hp⟩),(fun g hg=>(hk g hg).2),ht,dn,db,h.pat.lt,⟨t,o,h⟩,fun e=>by cases e⟩
def RwE (D:Nat→Prop) (r0:Option Nat) (u:World) (Ts:List NT) (w':World) (v:Value):Prop:=(∃ ds,NRw (Dm D [] v) w' v Ts ds)∧∀ g,v.ownBlock=some g→(u.heap.size≤g∨r0=some g)∧g<w'.heap.size
def PxW (B:Nat) (so:Option Addr) (sc:Nat) (ws:List Tok) (nb:Nat) (D:Nat→Prop) (r0:Option Nat) (w:World) (r:Pr (List NT)) (e:Ending) (w':World):Prop:=Bo B r0 w w'∧
 match r with
 | .ok a t o=>(∃ v,e= .returned v∧RwE D r0 w a w' v)∧PX w' B so sc ws nb t o∧a.length≤2*t+4
 | .bad er q=>e= .panicked (fcs er q)
theorem SB.rowcall {t' o':Nat} {Ts':List NT} {v':Value} (h:SB false D r0 w B so sc ws nb t o bx rv Ts tr W) (hb:Bo B rv.ownBlock W W') (hp:PX W' B so sc ws nb t' o') (hE:RwE (fun b=>D b∧∀ p∈bx,b≠p.1) rv.ownBlock W Ts' W' v'):SB false D r0 w B so sc ws nb t' o' bx v' Ts' tr W':=by
 have hB:=h.hB;have hs:∀ b,Dm D bx rv b→b<W.heap.size→W'.heap[b]? =W.heap[b]? :=fun b hd hl=>hb.block b hl (h.db b hd.1) hd.2.2
 have hlo:∀ b,Dm D bx rv b→b<W.heap.size→Dm D bx v' b:=fun b hd hl=>⟨hd.1,hd.2.1,fun e=>by
  rcases (hE.2 b e).1 with h1|h1
  · omega
  · exact hd.2.2 h1⟩
 obtain ⟨⟨ds,hr⟩,hv⟩:=hE
 have hbo:Bo B r0 w W':=⟨hb.os.trans h.bo.os,hb.tape.trans h.bo.tape,hb.output.trans h.bo.output,Nat.le_trans h.bo.size hb.size,fun k hk h1 h2=>(hb.block k (Nat.lt_of_lt_of_le hk h.bo.size) h1 (fun e=>by
  rcases (h.rok k e).1 with h3|h3
  · omega
  · exact h2 h3)).trans (h.bo.block k hk h1 h2)⟩
 refine ⟨hbo,hp,fun p hq=> ?_,h.apart,⟨ds,hr.weak (fun b hb _=>⟨hb.1.1,hb.1.2,hb.2.2⟩)⟩,fun g hg=> ?_,h.r0k,fun q hq=>(h.trs q hq).keep hb.size hs hlo,h.dn,h.db,hB,h.p0,fun e=>by cases e⟩
 · obtain ⟨k1,k2,k3⟩:=h.bxs p hq;exact ⟨k1,Nat.lt_of_lt_of_le k2 hb.size,(hb.block p.1 k2 (by omega) (fun e=>(h.rok _ e).2.2.2 p hq rfl)).trans k3⟩
 · obtain ⟨h1,h2⟩:=hv g hg;have hW:=h.bo.size;rcases h1 with h1|h1
   · exact ⟨.inl (by omega),by omega,h2,fun p hq=>by have:=(h.bxs p hq).2.1;omega⟩
   · obtain ⟨k1,k2,k3,k4⟩:=h.rok g h1;exact ⟨k1,k2,h2,k4⟩
theorem SB.dnR (h:SB Fl D r0 w B so sc ws nb t o bx rv Ts tr W):∀ b,W.heap.size≤b→(D b∧∀ p∈bx,b≠p.1):=fun b hb=>⟨(h.dnW b hb).1,(h.dnW b hb).2.1⟩
theorem SB.dbR (h:SB Fl D r0 w B so sc ws nb t o bx rv Ts tr W):∀ b,(D b∧∀ p∈bx,b≠p.1)→b≠B:=fun b hb=>h.db b hb.1
theorem SB.rowR (h:SB Fl D r0 w B so sc ws nb t o bx rv Ts tr W):∃ ds,NRw (Dm (fun b=>D b∧∀ p∈bx,b≠p.1) [] rv) W rv Ts ds:=by
 obtain ⟨ds,hr⟩:=h.row;exact ⟨ds,hr.weak (fun b hb _=>⟨⟨hb.1,hb.2.1⟩,(fun p hp=>by simp at hp),hb.2.2⟩)⟩
theorem SB.okR (h:SB Fl D r0 w B so sc ws nb t o bx rv Ts tr W):∀ g,rv.ownBlock=some g→g<W.heap.size∧g≠B∧g≠2∧∀ off,0<ws.length→so≠some ⟨g,off,none⟩:=fun g hg=>by
 obtain ⟨k1,k2,k3,_⟩:=h.rok g hg;refine ⟨k3,k2,?_,?_⟩
 · rcases k1 with k1|k1
   · obtain ⟨t0,o0,h0⟩:=h.p0;obtain ⟨ty,ho⟩:=h0.ops;have:=(Array.getElem?_eq_some_iff.1 ho).1;intro e;subst e;omega
   · exact (h.r0k g k1).2.1
 · rcases k1 with k1|k1
   · obtain ⟨t0,o0,h0⟩:=h.p0;intro off hw e;obtain ⟨g',off',e',hl,_⟩:=h0.pat.row 0 hw;rw [e] at e';injection e' with e';injection e' with e1 _;omega
   · exact (h.r0k g k1).2.2
theorem SB.rowNode (h:SB Fl D none w B so sc ws nb t o bx rv Ts tr W) {ko:Option Addr} {kc:Nat} (hv:rv= .slice ko Ts.length kc) (op at_:Int) (tx:ByteArray) (htx:tx.size≤140737488355328) (hn:Ts.length≤140737488355328):
 NdI D W (.mk op at_ tx vtN [] Ts) ⟨op,at_,0,tx,⟨#[]⟩,⟨#[]⟩,none,none,none,ko,0,0,0,0,0,0,Ts.length,kc⟩:=by
 obtain ⟨ds,hr⟩:=h.row;subst hv
 exact NdI.kids op at_ tx htx hr (fun b hb _=>hb.1) (fun g hg=>by
  obtain ⟨k1,k2,k3,_⟩:=h.rok g hg;rcases k1 with k1|k1
  · exact ⟨h.dn g k1,k3⟩
  · cases k1) hn
theorem SB.toRwE (h:SB Fl D r0 w B so sc ws nb t o [] rv Ts tr W):RwE D r0 w Ts W rv:=⟨h.row,fun g hg=>⟨(h.rok g hg).1,(h.rok g hg).2.2.1⟩⟩
theorem SB.ownA (h:SB Fl D r0 w B so sc ws nb t o bx rv Ts tr W) {ds:List NV} (hr:NRw (Dm D bx rv) W rv Ts ds) (X:Obj):(W.alloc X).ownsRow 0 28 10 rv Ts.length (ds.flatMap NV.l):=
 (hr.keep (D':=Dm D bx rv) (W':=W.alloc X) (by simp) (fun b _ hl=>Below.heap_alloc _ _ _ hl) (fun b hb _=>hb) (fun g hg=>Below.heap_alloc _ _ _ (h.rok g hg).2.2.1)).own
def tkOf (B:Nat) (wr:World):Nat:=match wr.cell? ⟨B,1,none⟩ with
 | some (.int _ n)=>n.toNat
 | _=>0
theorem PX.tk (h:PX W B so sc ws nb t o):tkOf B W=t:=by
 unfold tkOf;rw [(q06 h.pat.box).2.1];simp
theorem q1k {α β γ:Type} (body: α→PM (α ⊕ β)) (f:Nat) (a: α) (F: β→PM γ) (t o:Nat):q07 (lpP body (f+1) a) F t o=q07 (body a) (fun r=>match r with| .inl a'=>q07 (lpP body f a') F| .inr b=>F b) t o:=by
 rw [lpP,q0g];apply congrFun;apply congrFun
 congr 1
 funext r
 cases r <;> rfl
theorem SB.boR (h:SB Fl D r0 w B so sc ws nb t o bx rv Ts tr W) (hb:Bo B rv.ownBlock W W'):Bo B r0 w W':=⟨hb.os.trans h.bo.os,hb.tape.trans h.bo.tape,hb.output.trans h.bo.output,Nat.le_trans h.bo.size hb.size,fun k hk h1 h2=>(hb.block k (Nat.lt_of_lt_of_le hk h.bo.size) h1 (fun e=>by
 rcases (h.rok k e).1 with h3|h3
 · omega
 · exact h2 h3)).trans (h.bo.block k hk h1 h2)⟩
theorem SB.waits (h:SB true D r0 w B so sc ws nb t o bx rv Ts tr W):∃ ds,NRw (Dm D bx rv) W rv Ts ds∧∀ (i:Nat) d,ds[i]? =some d→d.kc=d.kN∧d.kN≤1000:=by
 obtain ⟨ds,hr⟩:=h.row;refine ⟨ds,hr,fun i d hi=> ?_⟩;have hil:=(List.getElem?_eq_some_iff.1 hi).1;have hi3:i<Ts.length:=by rw [← hr.len];exact hil
 rcases hr.own.2 with ⟨e1,e2⟩|⟨g',cap,cur,e1,_⟩
 · omega
 · obtain ⟨ko,k,h1,h2⟩:=h.fu rfl g' (by rw [e1];rfl) i hi3;have h3:=hr.cell (i:=i) (j:=9) (g:=g') (by rw [e1];rfl) hi (by decide);rw [h3] at h2;have h4:Value.slice d.ko d.kN d.kc= .slice ko k k:=Option.some.inj h2;injection h4 with h5 h6 h7;exact ⟨by rw [h6,h7],by rw [h6];exact h1⟩
theorem SB.rowV (h:SB Fl D r0 w B so sc ws nb t o bx rv Ts tr W):∃ ko kc,rv= .slice ko Ts.length kc:=by
 obtain ⟨ds,hr⟩:=h.row;rcases hr.own.2 with ⟨e,h0⟩|⟨g,cap,cur,e,_⟩
 · exact ⟨none,0,by rw [e,h0]⟩
 · exact ⟨_,_,e⟩
end
end Go.Proofs.YtdjleoglphgdgaaGreatDoor
namespace Go.Proofs.YtdjleoglphgdgaaGreatDoor
open Go.RowKit Go.Shelf
attribute [local go_sem] Oper.semAt_some
set_option maxRecDepth 100000
set_option maxHeartbeats 12800000
def NdF (D:Nat→Prop) (T:NT) (w':World) (v:Value):Prop:=∃ d:NV,v=d.v∧NdI D w' T d∧d.kc=d.kN∧d.kN≤1000
def NodeF (B:Nat) (so:Option Addr) (sc:Nat) (ws:List Tok) (nb:Nat) (fn:FuncId) (args:Array Value) (m:Nat) (x:PM NT):Prop:=∀ (D:Nat→Prop) (u:World) (t o:Nat),(∀ b,u.heap.size≤b→D b)→(∀ b,D b→b≠B)→PX u B so sc ws nb t o→m≤t→Calls Tryz.prog fn args u fun e w'=>PxR B so sc ws nb u (NdF D) (x t o) e w'
section
variable {B:Nat} {so:Option Addr} {sc:Nat} {ws:List Tok} {nb:Nat} {m:Nat} {P:PM NT} {O:Nat→PM NT}
theorem listX (h:PO B so sc ws nb (m+1) P O):q1X B so sc ws nb 271 m (listP ws nb P):=by
 intro D u t o dn db hx hm;obtain ⟨R,hR⟩:∃ R,listP ws nb P t o=R:=⟨_,rfl⟩;rw [hR];unfold listP at hR;have HR:=hQz hR;have HPO:=hQz h;have HS0:=hQz (SB.new (Fl:=false) (tr:=[]) hx dn db (fun q hq=>by simp at hq));have HX:=hQz (And.intro hx.pat.le hx.pat.open_);have HM:=hQz hm;have hfl0:=Tryz.fldX0;have hfl1:=Tryz.fldX1;have hfl3:=Tryz.fldX3;clear hR h hx hm dn db;go_in;go_wp2_with fail;have HS1:=hQz (HS0.out.al0);refine PxR.on (enterX [91] _ HS1.out.px) (fun er q w hr hb=>⟨rfl,(HS1.out.bo.trans (Bo.ofBt hb)).toBt,by rw [← HR.out,q04 hr]⟩) ?_;intro x1 t1 o1 v w1 hr hb hp hE;replace HR:=hQz ((q02 hr).symm.trans HR.out);(try dsimp only at HR)
 have HL1:=hQz (q0I (nb:=nb) [91] _ HS1.out.px.pat.le _ _ _ _ hr);have HO1:=hQz (q0H (nb:=nb) [91] _ _ _ _ _ HS1.out.px.pat.open_ hr);have HQ1:=hQz hr;have HS2:=hQz (HS1.out.step hb hp);clear hb hp hr;unfold TkE at hE;subst hE;obtain ⟨kd1,pa1,fi1,tx1,er1⟩:=x1;unfold tokV;(try dsimp only at HR)
 dsimp only;go_wp2_with fail;have HS3:=hQz (HS2.out.alloc [.int .i64 4,.int .i64 (pa1:Int),.string ⟨#[]⟩,.int .i64 0,.string ⟨#[]⟩,.string ⟨#[]⟩,.slice none 0 0,.slice none 0 0,.slice none 0 0,.slice none 0 0] 28);obtain ⟨c,hc⟩:∃ c,syP ws t1 [93]=c:=⟨_,rfl⟩
 cases c with
 | true=>
  refine (q0p [93] hc _ HS3.out.px).mono ?_;rintro e w2 ⟨rfl,hb⟩;have HS4:=hQz (HS3.out.keep hb);clear hb;have hR:=HR.out;rw [q02 (a:=[]) (t':=t1) (o':=o1) (by (try dsimp only);rw [if_pos hc])] at hR;(try dsimp only at hR)
  replace HR:=hQz hR;clear hR;go_wp2_with fail;refine PxR.on (q1p [93] (by have:=HO1.out;omega) _ HS4.out.px) (fun er q w hr hb=>⟨rfl,(HS4.out.bo.trans (Bo.ofBt hb)).toBt,by rw [← HR.out,q04 hr]⟩) ?_;intro _x t4 o4 v w3 hr hb hp hE;replace HR:=hQz ((q02 hr).symm.trans HR.out);(try dsimp only at HR)
  have HL3:=hQz (q0u (nb:=nb) [93] _ HS4.out.px.pat.le _ _ _ _ hr);have HQ3:=hQz hr;have HS5:=hQz (HS4.out.step hb hp);clear hb hp hr;subst hE;have HLv:=HL3;obtain ⟨c0,c1,c2,c3,c4,c5,c6,c7,c8,c9⟩:=q00 HS5.out.bb0;obtain ⟨r0,r1,r2,r3,r4,r5,r6,r7,r8,r9⟩:=q00 HS5.out.bb1;obtain ⟨rf0,rf1,rf2,rf3,rf4,rf5,rf6,rf7,rf8,rf9⟩:=q03 HS5.out.bb1;go_wp2_with fail;refine SB.st10 HS5.out 1 rfl rfl fun WZ HZ=>q0C Tryz.results271 rfl rfl rfl HZ.bb1 ⟨HZ.bo.toBt,?_⟩;rw [← HR.out];exact ⟨⟨_,rfl,⟨4,(pa1:Int),0,⟨#[]⟩,⟨#[]⟩,⟨#[]⟩,none,none,none,none,0,0,0,0,0,0,0,0⟩,rfl,NdI.leaf D _ 4 (pa1:Int) .empty q0N⟩,HZ.px⟩
 | false=>
  refine (q0p [93] hc _ HS3.out.px).mono ?_;rintro e w2 ⟨rfl,hb⟩;have HS4:=hQz (HS3.out.keep hb);clear hb;have hR:=HR.out;rw [q0w (y:=q07 P fun n=>pOk [n]) (by (try dsimp only);rw [if_neg (by rw [hc];decide)]),q0g] at hR;replace HR:=hQz hR;clear hR;go_wp2_with fail;refine PxR.on (HPO.out.pipe _ _ _ _ HS4.out.dnW HS4.out.dbW HS4.out.px (by have:=HL1.out;have:=HM.out;omega)) (fun er q w hr hb=>⟨rfl,(HS4.out.bo.trans (Bo.ofBt hb)).toBt,by rw [← HR.out,q04 hr]⟩) ?_;intro T2 t2 o2 v w3 hr hb hp hE;replace HR:=hQz ((q02 hr).symm.trans HR.out);(try dsimp only at HR)
  have HL3:=hQz (HPO.out.mp _ HS4.out.px.pat.le _ _ _ _ hr);have HO3:=hQz (HPO.out.bp _ _ _ _ _ HS4.out.px.pat.open_ hr);have HQ3:=hQz hr;have HS5:=hQz (HS4.out.step hb hp);clear hb hp hr;obtain ⟨d,rfl,hd⟩:=hE;have HS6:=hQz (HS5.out.add hd);clear hd;obtain ⟨op2,at2,vk2,tx2,nu2,vt2,io2,yo2,no2,ko2,iN2,ic2,yN2,yc2,nN2,nc2,kN2,kc2⟩:=d;unfold NV.v NV.l;dsimp only;have hR:=HR.out;rw [q02 (x:=pOk [T2]) rfl] at hR;(try dsimp only at hR)
  replace HR:=hQz hR;clear hR;obtain ⟨W4,hW4⟩:∃ W,w3.alloc (.cells #[.int .i64 op2,.int .i64 at2,.string tx2,.int .i64 vk2,.string nu2,.string vt2,.slice io2 iN2 ic2,.slice yo2 yN2 yc2,.slice no2 nN2 nc2,.slice ko2 kN2 kc2] 28)=W:=⟨_,rfl⟩;have HS7:=hQz (HS6.out.alloc [.int .i64 op2,.int .i64 at2,.string tx2,.int .i64 vk2,.string nu2,.string vt2,.slice io2 iN2 ic2,.slice yo2 yN2 yc2,.slice no2 nN2 nc2,.slice ko2 kN2 kc2] 28);rw [hW4] at HS7;obtain ⟨s0,s1,s2,s3,s4,s5,s6,s7,s8,s9⟩:=q00 HS7.out.bb1;obtain ⟨sf0,sf1,sf2,sf3,sf4,sf5,sf6,sf7,sf8,sf9⟩:=q03 HS7.out.bb1;obtain ⟨W5,hW5⟩:∃ W,W4.setCell ⟨w1.heap.size,9,none⟩ (.slice (some ⟨w3.heap.size,0,none⟩) 1 1)=W:=⟨_,rfl⟩;have P5:=q15 HS7.out.bb1 hW5;have HS8:=hQz (HS7.out.put 1 _ _ [.int .i64 4,.int .i64 (pa1:Int),.string ⟨#[]⟩,.int .i64 0,.string ⟨#[]⟩,.string ⟨#[]⟩,.slice none 0 0,.slice none 0 0,.slice none 0 0,.slice (some ⟨w3.heap.size,0,none⟩) 1 1] _ rfl P5);clear P5;go_wp2_with fail;clear hW4 hW5 s0 s1 s2 s3 s4 s5 s6 s7 s8 s9 sf0 sf1 sf2 sf3 sf4 sf5 sf6 sf7 sf8 sf9;refine PxR.on (q1p [93] (by have:=HO1.out;have:=HO3.out;omega) _ HS8.out.px) (fun er q w hr hb=>⟨rfl,(HS8.out.bo.trans (Bo.ofBt hb)).toBt,by rw [← HR.out,q04 hr]⟩) ?_;intro _x t5 o5 v w6 hr hb hp hE;replace HR:=hQz ((q02 hr).symm.trans HR.out);(try dsimp only at HR)
  have HL6:=hQz (q0u (nb:=nb) [93] _ HS8.out.px.pat.le _ _ _ _ hr);have HQ6:=hQz hr;have HS9:=hQz (HS8.out.step hb hp);clear hb hp hr;subst hE;have HLv:=HL6;obtain ⟨c0,c1,c2,c3,c4,c5,c6,c7,c8,c9⟩:=q00 HS9.out.bb1;obtain ⟨r0,r1,r2,r3,r4,r5,r6,r7,r8,r9⟩:=q00 HS9.out.bb2;obtain ⟨rf0,rf1,rf2,rf3,rf4,rf5,rf6,rf7,rf8,rf9⟩:=q03 HS9.out.bb2;go_wp2_with fail;refine SB.st10 HS9.out 2 rfl rfl fun WZ HZ=>q0C Tryz.results271 rfl rfl rfl HZ.bb2 ⟨HZ.bo.toBt,?_⟩;rw [← HR.out];exact ⟨⟨_,rfl,⟨4,(pa1:Int),0,⟨#[]⟩,⟨#[]⟩,⟨#[]⟩,none,none,none,some ⟨w3.heap.size,0,none⟩,0,0,0,0,0,0,1,1⟩,rfl,NdI.lit (Ts:=[T2]) (ds:=[⟨op2,at2,vk2,tx2,nu2,vt2,io2,yo2,no2,ko2,iN2,ic2,yN2,yc2,nN2,nc2,kN2,kc2⟩]) 4 (pa1:Int) .empty q0N rfl (by simp) HZ.bb0 (HZ.dn _ (HZ.bxs _ (List.mem_of_getElem? (i:=0) rfl)).1) (els1 HZ.t0)⟩,HZ.px⟩
theorem branchX (h:PO B so sc ws nb m P O) (a:Nat):NodeF B so sc ws nb 281 #[.pointer (some ⟨B,0,none⟩),.int .i64 (a:Int)] m (q1S ws nb P a):=by
 intro D u t o dn db hx hm;obtain ⟨R,hR⟩:∃ R,q1S ws nb P a t o=R:=⟨_,rfl⟩;rw [hR];unfold q1S at hR;have HR:=hQz hR;have HPO:=hQz h;have HS0:=hQz (SB.new (Fl:=false) (tr:=[]) hx dn db (fun q hq=>by simp at hq));have HX:=hQz (And.intro hx.pat.le hx.pat.open_);have HM:=hQz hm;have hfl0:=Tryz.fldX0;have hfl1:=Tryz.fldX1;have hfl3:=Tryz.fldX3;clear hR h hx hm dn db;go_in;go_wp2_with fail;have HS1:=hQz (HS0.out.al0);refine PxR.on (HPO.out.pipe _ _ _ _ HS1.out.dnW HS1.out.dbW HS1.out.px HM.out) (fun er q w hr hb=>⟨rfl,(HS1.out.bo.trans (Bo.ofBt hb)).toBt,by rw [← HR.out,q04 hr]⟩) ?_;intro T1 t1 o1 v w1 hr hb hp hE;replace HR:=hQz ((q02 hr).symm.trans HR.out);(try dsimp only at HR)
 have HL1:=hQz (HPO.out.mp _ HS1.out.px.pat.le _ _ _ _ hr);have HO1:=hQz (HPO.out.bp _ _ _ _ _ HS1.out.px.pat.open_ hr);have HQ1:=hQz hr;have HS2:=hQz (HS1.out.step hb hp);clear hb hp hr;obtain ⟨d,rfl,hd⟩:=hE;have HS3:=hQz (HS2.out.add hd);clear hd;obtain ⟨op1,at1,vk1,tx1,nu1,vt1,io1,yo1,no1,ko1,iN1,ic1,yN1,yc1,nN1,nc1,kN1,kc1⟩:=d;unfold NV.v NV.l;dsimp only;obtain ⟨W2,hW2⟩:∃ W,w1.alloc (.cells #[.int .i64 op1,.int .i64 at1,.string tx1,.int .i64 vk1,.string nu1,.string vt1,.slice io1 iN1 ic1,.slice yo1 yN1 yc1,.slice no1 nN1 nc1,.slice ko1 kN1 kc1] 28)=W:=⟨_,rfl⟩;have HS4:=hQz (HS3.out.alloc [.int .i64 op1,.int .i64 at1,.string tx1,.int .i64 vk1,.string nu1,.string vt1,.slice io1 iN1 ic1,.slice yo1 yN1 yc1,.slice no1 nN1 nc1,.slice ko1 kN1 kc1] 28);rw [hW2] at HS4;go_wp2_with fail;refine PxR.on (q2r [116,104,101,110] _ HS4.out.px) (fun er q w hr hb=>⟨rfl,(HS4.out.bo.trans (Bo.ofBt hb)).toBt,by rw [← HR.out,q04 hr]⟩) ?_;intro x2 t2 o2 v w3 hr hb hp hE;replace HR:=hQz ((q02 hr).symm.trans HR.out);(try dsimp only at HR)
 have HL3:=hQz (q0B (nb:=nb) [116,104,101,110] _ HS4.out.px.pat.le _ _ _ _ hr);have HO3:=hQz (q0x (nb:=nb) [116,104,101,110] _ _ _ _ _ HS4.out.px.pat.open_ hr);have HQ3:=hQz hr;have HS5:=hQz (HS4.out.step hb hp);clear hb hp hr;unfold TkE at hE;subst hE;clear hW2;go_wp2_with fail;refine PxR.on (HPO.out.pipe _ _ _ _ HS5.out.dnW HS5.out.dbW HS5.out.px (by have:=HL1.out;have:=HL3.out;have:=HM.out;omega)) (fun er q w hr hb=>⟨rfl,(HS5.out.bo.trans (Bo.ofBt hb)).toBt,by rw [← HR.out,q04 hr]⟩) ?_;intro T3 t3 o3 v w4 hr hb hp hE;replace HR:=hQz ((q02 hr).symm.trans HR.out);(try dsimp only at HR)
 have HL4:=hQz (HPO.out.mp _ HS5.out.px.pat.le _ _ _ _ hr);have HO4:=hQz (HPO.out.bp _ _ _ _ _ HS5.out.px.pat.open_ hr);have HQ4:=hQz hr;have HS6:=hQz (HS5.out.step hb hp);clear hb hp hr;obtain ⟨d,rfl,hd⟩:=hE;have HS7:=hQz (HS6.out.add hd);clear hd;obtain ⟨op3,at3,vk3,tx3,nu3,vt3,io3,yo3,no3,ko3,iN3,ic3,yN3,yc3,nN3,nc3,kN3,kc3⟩:=d;unfold NV.v NV.l;dsimp only;obtain ⟨W5,hW5⟩:∃ W,w4.alloc (.cells #[.int .i64 op3,.int .i64 at3,.string tx3,.int .i64 vk3,.string nu3,.string vt3,.slice io3 iN3 ic3,.slice yo3 yN3 yc3,.slice no3 nN3 nc3,.slice ko3 kN3 kc3] 28)=W:=⟨_,rfl⟩;have HS8:=hQz (HS7.out.alloc [.int .i64 op3,.int .i64 at3,.string tx3,.int .i64 vk3,.string nu3,.string vt3,.slice io3 iN3 ic3,.slice yo3 yN3 yc3,.slice no3 nN3 nc3,.slice ko3 kN3 kc3] 28);rw [hW5] at HS8;obtain ⟨c0,c1,c2,c3,c4,c5,c6,c7,c8,c9⟩:=q00 HS8.out.bb0;obtain ⟨b0,b1,b2,b3,b4,b5,b6,b7,b8,b9⟩:=q00 HS8.out.bb1;obtain ⟨W6,hW6⟩:∃ W,W5.alloc (.cells #[.int .i64 op1,.int .i64 at1,.string tx1,.int .i64 vk1,.string nu1,.string vt1,.slice io1 iN1 ic1,.slice yo1 yN1 yc1,.slice no1 nN1 nc1,.slice ko1 kN1 kc1,.int .i64 op3,.int .i64 at3,.string tx3,.int .i64 vk3,.string nu3,.string vt3,.slice io3 iN3 ic3,.slice yo3 yN3 yc3,.slice no3 nN3 nc3,.slice ko3 kN3 kc3] 28)=W:=⟨_,rfl⟩;have HS9:=hQz (HS8.out.alloc [.int .i64 op1,.int .i64 at1,.string tx1,.int .i64 vk1,.string nu1,.string vt1,.slice io1 iN1 ic1,.slice yo1 yN1 yc1,.slice no1 nN1 nc1,.slice ko1 kN1 kc1,.int .i64 op3,.int .i64 at3,.string tx3,.int .i64 vk3,.string nu3,.string vt3,.slice io3 iN3 ic3,.slice yo3 yN3 yc3,.slice no3 nN3 nc3,.slice ko3 kN3 kc3] 28);rw [hW6] at HS9;obtain ⟨c0,c1,c2,c3,c4,c5,c6,c7,c8,c9⟩:=q00 HS9.out.bb1;obtain ⟨b0,b1,b2,b3,b4,b5,b6,b7,b8,b9⟩:=q00 HS9.out.bb2;obtain ⟨r0,r1,r2,r3,r4,r5,r6,r7,r8,r9⟩:=q00 HS9.out.bb3;obtain ⟨rf0,rf1,rf2,rf3,rf4,rf5,rf6,rf7,rf8,rf9⟩:=q03 HS9.out.bb3;go_wp2_with fail;refine SB.st10 HS9.out 3 rfl rfl fun WZ HZ=>q0C Tryz.results281 rfl rfl rfl HZ.bb3 ⟨HZ.bo.toBt,?_⟩;rw [← HR.out];exact ⟨⟨_,rfl,⟨28,(a:Int),0,⟨#[]⟩,⟨#[]⟩,⟨#[]⟩,none,none,none,some ⟨W5.heap.size,0,none⟩,0,0,0,0,0,0,2,2⟩,rfl,NdI.lit (Ts:=[T1,T3]) (ds:=[⟨op1,at1,vk1,tx1,nu1,vt1,io1,yo1,no1,ko1,iN1,ic1,yN1,yc1,nN1,nc1,kN1,kc1⟩,⟨op3,at3,vk3,tx3,nu3,vt3,io3,yo3,no3,ko3,iN3,ic3,yN3,yc3,nN3,nc3,kN3,kc3⟩]) 28 (a:Int) .empty q0N rfl (by simp) HZ.bb0 (HZ.dn _ (HZ.bxs _ (List.mem_of_getElem? (i:=0) rfl)).1) (els2 HZ.t1 HZ.t0),rfl,(by show 2≤1000;decide)⟩,HZ.px⟩
end
def RowC (B:Nat) (so:Option Addr) (sc:Nat) (ws:List Tok) (nb:Nat) (fn:FuncId) (args:Value→Array Value) (m:Nat) (x:List NT→PM (List NT)):Prop:=∀ (D:Nat→Prop) (u:World) (t o:Nat) (rv:Value) (Ts:List NT) (ds:List NV),(∀ b,u.heap.size≤b→D b)→(∀ b,D b→b≠B)→PX u B so sc ws nb t o→m≤t→NRw (Dm D [] rv) u rv Ts ds→(∀ g,rv.ownBlock=some g→g<u.heap.size∧g≠B∧g≠2∧∀ off,0<ws.length→so≠some ⟨g,off,none⟩)→Ts.length≤2*t+4→
 Calls Tryz.prog fn (args rv) u fun e w'=>PxW B so sc ws nb D rv.ownBlock u (x Ts t o) e w'
section
variable {B:Nat} {so:Option Addr} {sc:Nat} {ws:List Tok} {nb:Nat} {m:Nat} {P:PM NT} {O:Nat→PM NT}
theorem pipesX (h:PO B so sc ws nb (m+1) P O) (least most:Nat) (h1:1≤least) (h2:most≤9223372036854775807):RowC B so sc ws nb 275 (fun rv=> #[.pointer (some ⟨B,0,none⟩),rv,.int .i64 (least:Int),.int .i64 (most:Int)]) m (fun ks=>q23 ws nb P ks least most):=by
 intro D u t o rv Ts ds dn db hx hm hrow hok hlen;obtain ⟨R,hR⟩:∃ R,q23 ws nb P Ts least most t o=R:=⟨_,rfl⟩;dsimp only;rw [hR];unfold q23 at hR;have HR:=hQz hR;have HPO:=hQz h;have HS0:=hQz (SB.newR (tr:=[]) hx dn db hrow hok (fun q hq=>by simp at hq));have HX:=hQz (And.intro hx.pat.le (And.intro hx.pat.open_ hx.pat.few));have HM:=hQz hm;have HLen:=hQz hlen;have hfl0:=Tryz.fldX0;have hfl1:=Tryz.fldX1;have hfl3:=Tryz.fldX3;clear hR h hx hm dn db hrow hok hlen;obtain ⟨i0,hi0,hz0,hz1,hz2⟩:=info_parts Tryz.infoN;have hr0:∃ r0,rv.ownBlock=r0:=⟨_,rfl⟩;obtain ⟨r0,hr0⟩:=hr0;rw [hr0] at HS0 ⊢;clear hr0;go_in;go_wp2_with fail;refine PxR.on (enterX [40] _ HS0.out.px) (fun er q w hr hb=>⟨rfl,(HS0.out.bo.trans (Bo.ofBt hb)),by rw [← HR.out,q04 hr]⟩) ?_;intro x1 t1 o1 v w1 hr hb hp hE;replace HR:=hQz ((q02 hr).symm.trans HR.out);(try dsimp only at HR)
 have HL1:=hQz (q0I (nb:=nb) [40] _ HS0.out.px.pat.le _ _ _ _ hr);have HO1:=hQz (q0H (nb:=nb) [40] _ _ _ _ _ HS0.out.px.pat.open_ hr);have HQ1:=hQz hr;have HS1:=hQz (HS0.out.step hb hp);clear hb hp hr;unfold TkE at hE;subst hE;obtain ⟨kd1,pa1,fi1,tx1,er1⟩:=x1;unfold tokV;(try dsimp only at HR)
 dsimp only;go_wp2_with fail;refine PxR.on (HPO.out.pipe _ _ _ _ HS1.out.dnW HS1.out.dbW HS1.out.px (by have:=HL1.out;have:=HM.out;omega)) (fun er q w hr hb=>⟨rfl,(HS1.out.bo.trans (Bo.ofBt hb)),by rw [← HR.out,q04 hr]⟩) ?_;intro T2 t2 o2 v w2 hr hb hp hE;replace HR:=hQz ((q02 hr).symm.trans HR.out);(try dsimp only at HR)
 have HL2:=hQz (HPO.out.mp _ HS1.out.px.pat.le _ _ _ _ hr);have HO2:=hQz (HPO.out.bp _ _ _ _ _ HS1.out.px.pat.open_ hr);have HQ2:=hQz hr;have HS2:=hQz (HS1.out.step hb hp);clear hb hp hr;obtain ⟨d,rfl,hd⟩:=hE;have HS3:=hQz (HS2.out.add hd);clear hd;obtain ⟨op2,at2,vk2,tx2,nu2,vt2,io2,yo2,no2,ko2,iN2,ic2,yN2,yc2,nN2,nc2,kN2,kc2⟩:=d;unfold NV.v NV.l;dsimp only;obtain ⟨ds,hrw⟩:=HS3.out.row;have HRW:=hQz hrw;clear hrw;go_wp2_with (at_builtin;go_loud (refine wpList_append_own_at _ rfl _ _ 26 rfl 0 28 i0 (.agg #[.int .i64 0,.int .i64 0,.string ⟨#[]⟩,.int .i64 0,.string ⟨#[]⟩,.string ⟨#[]⟩,.slice none 0 0,.slice none 0 0,.slice none 0 0,.slice none 0 0]) 10 168 Tryz.underlying26 hi0 hz0 hz1 hz2 rfl (by decide) (rv) (Ts).length (ds.flatMap NV.l) rfl (HS3.out.ownA HRW.out _) ⟨w2.heap.size,0,none⟩ 1 1 (NV.l ⟨op2,at2,vk2,tx2,nu2,vt2,io2,yo2,no2,ko2,iN2,ic2,yN2,yc2,nN2,nc2,kN2,kc2⟩) rfl rfl (q0Z (heap_alloc_new w2 _)) (q13 _) (by have:=(by have:=HLen.out;have:=HX.out;omega:Ts.length+1≤50331648);unfold maxLen;omega) (by have:=(by have:=HLen.out;have:=HX.out;omega:Ts.length+1≤50331648);omega) (Nat.zero_le _) ?_));intro v3 w3 hown hgrow hnil hat;have HS4:=hQz ((HS3.out.app HRW.out (Us:=[T2]) (es:=[⟨op2,at2,vk2,tx2,nu2,vt2,io2,yo2,no2,ko2,iN2,ic2,yN2,yc2,nN2,nc2,kN2,kc2⟩]) rfl (els1 HS3.out.m0) (fun e=>by cases e) _ (by simpa using hown) hgrow hat).drop);clear hown hgrow hnil hat HRW;go_wp2_with fail
 go_loopw [1,9] (fun bk bm wr=>∃ (Ks:List NT) (many t3 o3 f:Nat),bm= .int .i64 (many:Int)∧Hid (ws.length<t3+f)∧Hid (SB false D r0 u B so sc ws nb t3 o3 [] bk Ks [] wr)∧Hid (Ks.length≤2*t3+4∧t+1≤t3∧o3=o+1∧1≤many∧many≤t3)∧Hid (q07 (lpP (fun (a:Nat × List NT) t o=>if a.1<most then (if least≤a.1∧syP ws t [59]=false then .ok (.inr a.2) t o else q07 (q1r ws nb [59]) (fun _=>q07 P fun k=>pOk (.inl (a.1+1,a.2++[k]))) t o) else .ok (.inr a.2) t o) f (many,Ks)) (fun ks=>q07 (q0Q ws nb [41]) fun _=>pOk ks) t3 o3=R)) (fun _ _ wr=>ws.length+1-tkOf B wr)
 case atStart=>
  refine ⟨Ts++[T2],1,t2,o2,ws.length+1,rfl,(by show _<_;omega),HS4,?_,HR⟩;have h1:=HLen.out;have h2:=HL1.out;have h3:=HL2.out;have h4:=HO1.out;have h5:=HO2.out;have h6:(Ts++[T2]).length=Ts.length+1:=by simp
  exact ⟨by omega,by omega,by omega,by omega,by omega⟩
 case round=>
  clear HR HS0 HS1 HS2 HS3 HS4 HL1 HL2 HO1 HO2 HLen;obtain ⟨Ks,many,t3,o3,f,rfl,HF,HS0,HK,HR⟩:=hrel;obtain ⟨f,rfl⟩:∃ f',f=f'+1:=⟨f-1,by have:=HF.out;have:=HS0.out.px.pat.le;omega⟩;have hR:=HR.out;rw [q1k] at hR;replace HR:=hQz hR;clear hR;have HTk:=hQz HS0.out.px.tk;by_cases hlt:many<most
  · have hli:(many:Int)<(most:Int):=by omega
    by_cases hle:least≤many
    · have hlj:(least:Int)≤(many:Int):=by omega
      obtain ⟨c,hc⟩:∃ c,syP ws t3 [59]=c:=⟨_,rfl⟩
      cases c with
      | true=>
       go_wp2_with fail;refine (q0p [59] hc _ HS0.out.px).mono ?_;rintro e w1 ⟨rfl,hb⟩;have HS1:=hQz (HS0.out.keep hb);clear hb;have hR:=HR.out;rw [q0w (y:=q07 (q1r ws nb [59]) fun _=>q07 P fun k=>pOk (.inl (many+1,Ks++[k]))) (by (try dsimp only);rw [if_pos hlt,if_neg (by rw [hc];simp)]),q0g] at hR;replace HR:=hQz hR;clear hR;go_wp2_with fail;refine PxR.on (q2r [59] _ HS1.out.px) (fun er q w hr hb=>⟨rfl,(HS1.out.bo.trans (Bo.ofBt hb)),by rw [← HR.out,q04 hr]⟩) ?_;intro x4 t4 o4 v w2 hr hb hp hE;replace HR:=hQz ((q02 hr).symm.trans HR.out);(try dsimp only at HR)
       have HL2:=hQz (q0B (nb:=nb) [59] _ HS1.out.px.pat.le _ _ _ _ hr);have HO2:=hQz (q0x (nb:=nb) [59] _ _ _ _ _ HS1.out.px.pat.open_ hr);have HQ2:=hQz hr;have HS2:=hQz (HS1.out.step hb hp);clear hb hp hr;unfold TkE at hE;subst hE;have hR:=HR.out;rw [q0g] at hR;replace HR:=hQz hR;clear hR;obtain ⟨kd4,pa4,fi4,tx4,er4⟩:=x4;unfold tokV;(try dsimp only at HR)
       dsimp only;go_wp2_with fail;refine PxR.on (HPO.out.pipe _ _ _ _ HS2.out.dnW HS2.out.dbW HS2.out.px (by have:=HL2.out;have:=HK.out;have:=HM.out;omega)) (fun er q w hr hb=>⟨rfl,(HS2.out.bo.trans (Bo.ofBt hb)),by rw [← HR.out,q04 hr]⟩) ?_;intro T5 t5 o5 v w3 hr hb hp hE;replace HR:=hQz ((q02 hr).symm.trans HR.out);(try dsimp only at HR)
       have HL3:=hQz (HPO.out.mp _ HS2.out.px.pat.le _ _ _ _ hr);have HO3:=hQz (HPO.out.bp _ _ _ _ _ HS2.out.px.pat.open_ hr);have HQ3:=hQz hr;have HS3:=hQz (HS2.out.step hb hp);clear hb hp hr;obtain ⟨d,rfl,hd⟩:=hE;have HS4:=hQz (HS3.out.add hd);clear hd;obtain ⟨op5,at5,vk5,tx5,nu5,vt5,io5,yo5,no5,ko5,iN5,ic5,yN5,yc5,nN5,nc5,kN5,kc5⟩:=d;unfold NV.v NV.l;dsimp only;have hR:=HR.out;rw [q02 (x:=pOk _) rfl] at hR;(try dsimp only at hR)
       replace HR:=hQz hR;clear hR;obtain ⟨ds,hrw⟩:=HS4.out.row;have HRW:=hQz hrw;clear hrw;go_wp2_with (at_builtin;go_loud (refine wpList_append_own_at _ rfl _ _ 26 rfl 0 28 i0 (.agg #[.int .i64 0,.int .i64 0,.string ⟨#[]⟩,.int .i64 0,.string ⟨#[]⟩,.string ⟨#[]⟩,.slice none 0 0,.slice none 0 0,.slice none 0 0,.slice none 0 0]) 10 168 Tryz.underlying26 hi0 hz0 hz1 hz2 rfl (by decide) (u1) (Ks).length (ds.flatMap NV.l) rfl (HS4.out.ownA HRW.out _) ⟨w3.heap.size,0,none⟩ 1 1 (NV.l ⟨op5,at5,vk5,tx5,nu5,vt5,io5,yo5,no5,ko5,iN5,ic5,yN5,yc5,nN5,nc5,kN5,kc5⟩) rfl rfl (q0Z (heap_alloc_new w3 _)) (q13 _) (by have:=(by have:=HK.out;have:=HX.out;have:=HS0.out.px.pat.le;omega:Ks.length+1≤50331648);unfold maxLen;omega) (by have:=(by have:=HK.out;have:=HX.out;have:=HS0.out.px.pat.le;omega:Ks.length+1≤50331648);omega) (Nat.zero_le _) ?_));intro v6 w4 hown hgrow hnil hat;have HS5:=hQz ((HS4.out.app HRW.out (Us:=[T5]) (es:=[⟨op5,at5,vk5,tx5,nu5,vt5,io5,yo5,no5,ko5,iN5,ic5,yN5,yc5,nN5,nc5,kN5,kc5⟩]) rfl (els1 HS4.out.m0) (fun e=>by cases e) _ (by simpa using hown) hgrow hat).drop);clear hown hgrow hnil hat HRW;go_wp2_with fail;go_roundw
       case rel=>
        refine ⟨Ks++[T5],many+1,t5,o5,f,(by go_num),?_,HS5,?_,HR⟩
        · have h1:=HF.out;have h2:=HL2.out;have h3:=HL3.out;show _<_;omega
        · have h1:=HK.out;have h2:=HL2.out;have h3:=HL3.out;have h4:=HO2.out;have h5:=HO3.out;have h6:(Ks++[T5]).length=Ks.length+1:=by simp
          exact ⟨by omega,by omega,by omega,by omega,by omega⟩
       case measure=>
        rw [HTk.out,HS5.out.px.tk];have h1:=HL2.out;have h2:=HL3.out;have h3:=HS0.out.px.pat.le;omega
      | false=>
       have hR:=HR.out;rw [q02 (a:= .inr Ks) (t':=t3) (o':=o3) (by (try dsimp only);rw [if_pos hlt,if_pos ⟨hle,hc⟩])] at hR;(try dsimp only at hR)
       replace HR:=hQz hR;clear hR;go_wp2_with fail;refine (q0p [59] hc _ HS0.out.px).mono ?_;rintro e w1 ⟨rfl,hb⟩;have HS1:=hQz (HS0.out.keep hb);clear hb;go_wp2_with fail;refine PxR.on (q1p [41] (by have:=HK.out;omega) _ HS1.out.px) (fun er q w hr hb=>⟨rfl,(HS1.out.bo.trans (Bo.ofBt hb)),by rw [← HR.out,q04 hr]⟩) ?_;intro _x t4 o4 v w2 hr hb hp hE;replace HR:=hQz ((q02 hr).symm.trans HR.out);(try dsimp only at HR)
       have HL2:=hQz (q0u (nb:=nb) [41] _ HS1.out.px.pat.le _ _ _ _ hr);have HQ2:=hQz hr;have HS2:=hQz (HS1.out.step hb hp);clear hb hp hr;subst hE;have HLv:=HL2;go_wp2_with fail;refine bodyPost_ret (v:=u1) (by simp [results,Tryz.results275,go_sem]) rfl ?_;have hR:=HR.out;have hle:=HS2.out.px.pat.le;refine ⟨HS2.out.bo,?_⟩;rw [← hR];exact ⟨⟨_,rfl,HS2.out.toRwE⟩,HS2.out.px,by have:=HK.out;have:=HLv.out;omega⟩
    · have hlj:¬ (least:Int)≤(many:Int):=by omega
      have hR:=HR.out;rw [q0w (y:=q07 (q1r ws nb [59]) fun _=>q07 P fun k=>pOk (.inl (many+1,Ks++[k]))) (by (try dsimp only);rw [if_pos hlt,if_neg (fun h=>hle h.1)]),q0g] at hR;replace HR:=hQz hR;clear hR;go_wp2_with fail;refine PxR.on (q2r [59] _ HS0.out.px) (fun er q w hr hb=>⟨rfl,(HS0.out.bo.trans (Bo.ofBt hb)),by rw [← HR.out,q04 hr]⟩) ?_;intro x4 t4 o4 v w1 hr hb hp hE;replace HR:=hQz ((q02 hr).symm.trans HR.out);(try dsimp only at HR)
      have HL1:=hQz (q0B (nb:=nb) [59] _ HS0.out.px.pat.le _ _ _ _ hr);have HO1:=hQz (q0x (nb:=nb) [59] _ _ _ _ _ HS0.out.px.pat.open_ hr);have HQ1:=hQz hr;have HS1:=hQz (HS0.out.step hb hp);clear hb hp hr;unfold TkE at hE;subst hE;have hR:=HR.out;rw [q0g] at hR;replace HR:=hQz hR;clear hR;obtain ⟨kd4,pa4,fi4,tx4,er4⟩:=x4;unfold tokV;(try dsimp only at HR)
      dsimp only;go_wp2_with fail;refine PxR.on (HPO.out.pipe _ _ _ _ HS1.out.dnW HS1.out.dbW HS1.out.px (by have:=HL1.out;have:=HK.out;have:=HM.out;omega)) (fun er q w hr hb=>⟨rfl,(HS1.out.bo.trans (Bo.ofBt hb)),by rw [← HR.out,q04 hr]⟩) ?_;intro T5 t5 o5 v w2 hr hb hp hE;replace HR:=hQz ((q02 hr).symm.trans HR.out);(try dsimp only at HR)
      have HL2:=hQz (HPO.out.mp _ HS1.out.px.pat.le _ _ _ _ hr);have HO2:=hQz (HPO.out.bp _ _ _ _ _ HS1.out.px.pat.open_ hr);have HQ2:=hQz hr;have HS2:=hQz (HS1.out.step hb hp);clear hb hp hr;obtain ⟨d,rfl,hd⟩:=hE;have HS3:=hQz (HS2.out.add hd);clear hd;obtain ⟨op5,at5,vk5,tx5,nu5,vt5,io5,yo5,no5,ko5,iN5,ic5,yN5,yc5,nN5,nc5,kN5,kc5⟩:=d;unfold NV.v NV.l;dsimp only;have hR:=HR.out;rw [q02 (x:=pOk _) rfl] at hR;(try dsimp only at hR)
      replace HR:=hQz hR;clear hR;obtain ⟨ds,hrw⟩:=HS3.out.row;have HRW:=hQz hrw;clear hrw;go_wp2_with (at_builtin;go_loud (refine wpList_append_own_at _ rfl _ _ 26 rfl 0 28 i0 (.agg #[.int .i64 0,.int .i64 0,.string ⟨#[]⟩,.int .i64 0,.string ⟨#[]⟩,.string ⟨#[]⟩,.slice none 0 0,.slice none 0 0,.slice none 0 0,.slice none 0 0]) 10 168 Tryz.underlying26 hi0 hz0 hz1 hz2 rfl (by decide) (u1) (Ks).length (ds.flatMap NV.l) rfl (HS3.out.ownA HRW.out _) ⟨w2.heap.size,0,none⟩ 1 1 (NV.l ⟨op5,at5,vk5,tx5,nu5,vt5,io5,yo5,no5,ko5,iN5,ic5,yN5,yc5,nN5,nc5,kN5,kc5⟩) rfl rfl (q0Z (heap_alloc_new w2 _)) (q13 _) (by have:=(by have:=HK.out;have:=HX.out;have:=HS0.out.px.pat.le;omega:Ks.length+1≤50331648);unfold maxLen;omega) (by have:=(by have:=HK.out;have:=HX.out;have:=HS0.out.px.pat.le;omega:Ks.length+1≤50331648);omega) (Nat.zero_le _) ?_));intro v6 w3 hown hgrow hnil hat;have HS4:=hQz ((HS3.out.app HRW.out (Us:=[T5]) (es:=[⟨op5,at5,vk5,tx5,nu5,vt5,io5,yo5,no5,ko5,iN5,ic5,yN5,yc5,nN5,nc5,kN5,kc5⟩]) rfl (els1 HS3.out.m0) (fun e=>by cases e) _ (by simpa using hown) hgrow hat).drop);clear hown hgrow hnil hat HRW;go_wp2_with fail;go_roundw
      case rel=>
       refine ⟨Ks++[T5],many+1,t5,o5,f,(by go_num),?_,HS4,?_,HR⟩
       · have h1:=HF.out;have h2:=HL1.out;have h3:=HL2.out;show _<_;omega
       · have h1:=HK.out;have h2:=HL1.out;have h3:=HL2.out;have h4:=HO1.out;have h5:=HO2.out;have h6:(Ks++[T5]).length=Ks.length+1:=by simp
         exact ⟨by omega,by omega,by omega,by omega,by omega⟩
      case measure=>
       rw [HTk.out,HS4.out.px.tk];have h1:=HL1.out;have h2:=HL2.out;have h3:=HS0.out.px.pat.le;omega
  · have hli:¬ (many:Int)<(most:Int):=by omega
    have hR:=HR.out;rw [q02 (a:= .inr Ks) (t':=t3) (o':=o3) (by (try dsimp only);rw [if_neg hlt])] at hR;(try dsimp only at hR)
    replace HR:=hQz hR;clear hR;go_wp2_with fail;refine PxR.on (q1p [41] (by have:=HK.out;omega) _ HS0.out.px) (fun er q w hr hb=>⟨rfl,(HS0.out.bo.trans (Bo.ofBt hb)),by rw [← HR.out,q04 hr]⟩) ?_;intro _x t4 o4 v w1 hr hb hp hE;replace HR:=hQz ((q02 hr).symm.trans HR.out);(try dsimp only at HR)
    have HL1:=hQz (q0u (nb:=nb) [41] _ HS0.out.px.pat.le _ _ _ _ hr);have HQ1:=hQz hr;have HS1:=hQz (HS0.out.step hb hp);clear hb hp hr;subst hE;have HLv:=HL1;go_wp2_with fail;refine bodyPost_ret (v:=u1) (by simp [results,Tryz.results275,go_sem]) rfl ?_;have hR:=HR.out;have hle:=HS1.out.px.pat.le;refine ⟨HS1.out.bo,?_⟩;rw [← hR];exact ⟨⟨_,rfl,HS1.out.toRwE⟩,HS1.out.px,by have:=HK.out;have:=HLv.out;omega⟩
theorem pipes1X (h:PO B so sc ws nb (m+1) P O):∀ (D:Nat→Prop) (u:World) (t o:Nat),(∀ b,u.heap.size≤b→D b)→(∀ b,D b→b≠B)→PX u B so sc ws nb t o→m≤t→
 Calls Tryz.prog 275 #[.pointer (some ⟨B,0,none⟩),.slice none 0 0,.int .i64 1,.int .i64 9223372036854775807] u fun e w'=>PxW B so sc ws nb D none u (q23 ws nb P [] 1 9223372036854775807 t o) e w':=
 fun D u t o dn db hx hm=>pipesX h 1 9223372036854775807 (by decide) (by decide) D u t o (.slice none 0 0) [] [] dn db hx hm (NRw.nil _ _) (fun g hg=>by cases hg) (by simp)
end
end Go.Proofs.YtdjleoglphgdgaaGreatDoor
