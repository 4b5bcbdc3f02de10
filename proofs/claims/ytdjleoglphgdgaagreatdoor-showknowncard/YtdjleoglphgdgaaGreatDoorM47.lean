import Derived.Test.YtdjleoglphgdgaaGreatDoorM43
import Derived.Test.YtdjleoglphgdgaaGreatDoorM45
import Derived.Recover
set_option linter.unusedVariables false
set_option linter.unusedSimpArgs false
namespace Go.Proofs.YtdjleoglphgdgaaGreatDoor
open Go.RowKit Go.Shelf
attribute [local go_sem] Oper.semAt_some
set_option maxRecDepth 100000
set_option maxHeartbeats 12800000
def OpsX (w:World):Prop:=∃ ty,w.heap[(2:Nat)]? =some (.cells opsT ty (0,0))
theorem OpsX.keep {w w':World} (h:OpsX w) (hb:Below w.heap.size w w'):OpsX w':=by
 obtain ⟨ty,h⟩:=h;exact ⟨ty,(hb.block _ (Array.getElem?_eq_some_iff.1 h).1).trans h⟩
theorem OpsX.lt {w:World} (h:OpsX w):2<w.heap.size:=by
 obtain ⟨ty,h⟩:=h;exact (Array.getElem?_eq_some_iff.1 h).1
def endP (ws:List Tok) (nb:Nat):NT→PM NT:=fun n t o=>if t<ws.length then pFt ws nb t o else .ok n t o
theorem Tryz.assertFltX (tt:TypeId) (v:Value) (w:World):(Instr.typeAssert (.iface 60 v) tt 60 false).run Tryz.prog w= .ok v w:=by
 kernel_rfl
theorem catch_panX (F:Nat) (er q:Nat) (y0 y1:Value) (w:World) (hF:w.heap[F]? =some (.cells #[y0,y1] 60 (0,0))):
 CallsD Tryz.prog 44 #[.pointer (some ⟨F,0,none⟩)] (.panicking (fcs er q)) w fun e u' w'=>
  e= .returned (.tuple #[])∧u'= .panicking [{ v:= .iface 60 (.agg #[.int .i64 (er:Int),.int .i64 (q:Int)]),recovered:=true }]∧w'=(w.setCell ⟨F,0,none⟩ (.int .i64 (er:Int))).setCell ⟨F,1,none⟩ (.int .i64 (q:Int)):=by
 have c0:w.cell? ⟨F,0,none⟩=some y0:=by rw [cell_of_row _ _ _ _ _ _ hF];rfl
 have c1:w.cell? ⟨F,1,none⟩=some y1:=by rw [cell_of_row _ _ _ _ _ _ hF];rfl
 have f0:w.frozen? ⟨F,0,none⟩=false:=q0f hF;have f1:w.frozen? ⟨F,1,none⟩=false:=q0f hF;refine callsD_of_wpS Tryz.func44 rfl fun c₀ cs hu=> ?_;unfold fcs at hu;apply wpS_seq;apply wpS_region;simp [wpOpsS,go_sem,recoverD,hu,Tryz.ntmps44,Exit.thenS,Array.replicate_succ];refine wpS_of_wp ?_;have hta:=Tryz.assertFltX;go_wp2_with fail;simp [bodyPostS,results,Tryz.results44]
theorem catch_idlX (F:Nat) (w:World):
 CallsD Tryz.prog 44 #[.pointer (some ⟨F,0,none⟩)] .returning w fun e u' w'=>e= .returned (.tuple #[])∧u'= .returning∧w'=w:=by
 refine callsD_of_wpS Tryz.func44 rfl fun c₀ cs hu=> ?_;apply wpS_seq;apply wpS_region;simp [wpOpsS,go_sem,recoverD,hu,Tryz.ntmps44,Exit.thenS,Array.replicate_succ];refine wpS_of_wp ?_;go_wp2_with fail
 cases c₀
 simp_all [bodyPostS,results,Tryz.results44]
section
variable {B:Nat} {so:Option Addr} {sc:Nat} {ws:List Tok} {nb:Nat} {P:PM NT}
theorem wholeX (hp:q1X B so sc ws nb 106 0 P):q1X B so sc ws nb 45 0 (q07 P (endP ws nb)):=by
 intro D u t o dn db hx hm;obtain ⟨R,hR⟩:∃ R,q07 P (endP ws nb) t o=R:=⟨_,rfl⟩;rw [hR];have HR:=hQz hR;have HPp:=hQz hp;have HS0:=hQz (SB.new (Fl:=false) (tr:=[]) hx dn db (fun q hq=>by simp at hq));have HX:=hQz (And.intro hx.pat.le hx.pat.few);have hfl0:=Tryz.fldX0;have hfl1:=Tryz.fldX1;have hfl3:=Tryz.fldX3;clear hR hp hx hm dn db;go_in;go_wp2_with fail;have HS1:=hQz (HS0.out.al0);refine PxR.on (HPp.out _ _ _ _ HS1.out.dnW HS1.out.dbW HS1.out.px (Nat.zero_le _)) (fun er q w hr hb=>⟨rfl,(HS1.out.bo.trans (Bo.ofBt hb)).toBt,by rw [← HR.out,q04 hr]⟩) ?_;intro T1 t1 o1 v w1 hr hb hp hE;replace HR:=hQz ((q02 hr).symm.trans HR.out);(try dsimp only at HR)
 have HQ1:=hQz hr;have HS2:=hQz (HS1.out.step hb hp);clear hb hp hr;obtain ⟨d,rfl,hd⟩:=hE;have HS3:=hQz (HS2.out.add hd);clear hd;obtain ⟨op1,at1,vk1,tx1,nu1,vt1,io1,yo1,no1,ko1,iN1,ic1,yN1,yc1,nN1,nc1,kN1,kc1⟩:=d;unfold NV.v NV.l;dsimp only;have hR:=HR.out;unfold endP at hR;replace HR:=hQz hR;clear hR;have q01:(∀ x,(w1.alloc x).cell? ⟨B,0,none⟩=some (.slice so ws.length sc))∧(∀ x,(w1.alloc x).cell? ⟨B,1,none⟩=some (.int .i64 (t1:Int))):=⟨fun x=>(q06 (HS3.out.px.pat.alloc x).box).1,fun x=>(q06 (HS3.out.px.pat.alloc x).box).2.1⟩;obtain ⟨q0,q1⟩:=q01;have Hle:Hid (t1≤ws.length):=HS3.out.px.pat.le;by_cases hlt0:t1<ws.length
 · have hR:=HR.out;rw [if_pos hlt0] at hR;replace HR:=hQz hR;clear hR;have hlt:decide ((t1:Int)<(ws.length:Int))=true:=by rw [decide_eq_true_iff];omega
   have hlt2:decide (t1<ws.length)=true:=by rw [decide_eq_true_iff];omega
   clear hlt0;generalize hN:ws.length=N at q0 hlt hlt2;have HN:=hQz hN;clear hN;go_wp2_with fail
   go_region
   all_goals
    obtain ⟨W5,hW5⟩:∃ W5,w1.alloc (.cells #[.int .i64 op1,.int .i64 at1,.string tx1,.int .i64 vk1,.string nu1,.string vt1,.slice io1 iN1 ic1,.slice yo1 yN1 yc1,.slice no1 nN1 nc1,.slice ko1 kN1 kc1] 28)=W5:=⟨_,rfl⟩;have HS5:=hQz ((HS3.out.alloc [.int .i64 op1,.int .i64 at1,.string tx1,.int .i64 vk1,.string nu1,.string vt1,.slice io1 iN1 ic1,.slice yo1 yN1 yc1,.slice no1 nN1 nc1,.slice ko1 kN1 kc1] 28).drew);rw [hW5] at HS5 ⊢;clear hW5 q0 q1;generalize W5.drew=W6 at *;go_wp2_with fail;refine (faultX _ HS5.out.px).mono ?_;rintro e w2 ⟨rfl,hb⟩;have HS7:=hQz (HS5.out.keep hb);clear hb;go_wp2_with fail;have hR:=HR.out;exact ⟨rfl,HS7.out.bo.toBt,by rw [← hR];rfl⟩
 · have hR:=HR.out;rw [if_neg hlt0] at hR;replace HR:=hQz hR;clear hR;have hlt:decide ((t1:Int)<(ws.length:Int))=false:=by rw [decide_eq_false_iff_not];omega
   have hlt2:decide (t1<ws.length)=false:=by rw [decide_eq_false_iff_not];omega
   clear hlt0;generalize hN:ws.length=N at q0 hlt hlt2;have HN:=hQz hN;clear hN;go_wp2_with fail
   go_region
   all_goals
    obtain ⟨W5,hW5⟩:∃ W5,w1.alloc (.cells #[.int .i64 op1,.int .i64 at1,.string tx1,.int .i64 vk1,.string nu1,.string vt1,.slice io1 iN1 ic1,.slice yo1 yN1 yc1,.slice no1 nN1 nc1,.slice ko1 kN1 kc1] 28)=W5:=⟨_,rfl⟩;have HS5:=hQz ((HS3.out.alloc [.int .i64 op1,.int .i64 at1,.string tx1,.int .i64 vk1,.string nu1,.string vt1,.slice io1 iN1 ic1,.slice yo1 yN1 yc1,.slice no1 nN1 nc1,.slice ko1 kN1 kc1] 28).drew);rw [hW5] at HS5 ⊢;clear hW5 q0 q1;generalize W5.drew=W6 at *;obtain ⟨c0,c1,c2,c3,c4,c5,c6,c7,c8,c9⟩:=q00 HS5.out.bb0;obtain ⟨r0,r1,r2,r3,r4,r5,r6,r7,r8,r9⟩:=q00 HS5.out.bb1;obtain ⟨rf0,rf1,rf2,rf3,rf4,rf5,rf6,rf7,rf8,rf9⟩:=q03 HS5.out.bb1;go_wp2_with fail;refine SB.st10 HS5.out 1 rfl rfl fun WZ HZ=>q0C Tryz.results45 rfl rfl rfl HZ.bb1 ⟨HZ.bo.toBt,?_⟩;rw [← HR.out];exact ⟨⟨_,rfl,⟨op1,at1,vk1,tx1,nu1,vt1,io1,yo1,no1,ko1,iN1,ic1,yN1,yc1,nN1,nc1,kN1,kc1⟩,rfl,HZ.t0⟩,HZ.px⟩
end
structure CgX (w:World) (so:Option Addr) (sc:Nat) (ws:List Tok) (nb:Nat) (W:World):Prop where
 below:Below w.heap.size w W
 size:W.heap.size=w.heap.size+3
 px:PX W w.heap.size so sc ws nb 0 0
 res:W.heap[w.heap.size+1]? =some (.cells #[.int .i64 0,.int .i64 0,.string ⟨#[]⟩,.int .i64 0,.string ⟨#[]⟩,.string ⟨#[]⟩,.slice none 0 0,.slice none 0 0,.slice none 0 0,.slice none 0 0] 28 (0,0))
 flt:W.heap[w.heap.size+2]? =some (.cells #[.int .i64 0,.int .i64 0] 60 (0,0))
theorem cgX_new {w:World} {so:Option Addr} {sc:Nat} {ws:List Tok} {nb:Nat} (hr:TRow w so ws) (hc:ws.length≤sc) (hf:ws.length≤16777216) (ha:∀ g off,so=some ⟨g,off,none⟩→g<w.heap.size) (hO:OpsX w) {W:World}
 (hW:((w.alloc (.cells #[.slice so ws.length sc,.int .i64 0,.int .i64 (nb:Int),.int .i64 0] 66)).alloc (.cells #[.int .i64 0,.int .i64 0,.string ⟨#[]⟩,.int .i64 0,.string ⟨#[]⟩,.string ⟨#[]⟩,.slice none 0 0,.slice none 0 0,.slice none 0 0,.slice none 0 0] 28)).alloc (.cells #[.int .i64 0,.int .i64 0] 60)=W):CgX w so sc ws nb W:=by
 have hb:Below w.heap.size w W:=by rw [← hW];exact (((q0a w _).alloc (by simp) _).alloc (by simp;omega) _)
 have e1:=heap_alloc_new w (.cells #[.slice so ws.length sc,.int .i64 0,.int .i64 (nb:Int),.int .i64 0] 66);have e2:=heap_alloc_new (w.alloc (.cells #[.slice so ws.length sc,.int .i64 0,.int .i64 (nb:Int),.int .i64 0] 66)) (.cells #[.int .i64 0,.int .i64 0,.string ⟨#[]⟩,.int .i64 0,.string ⟨#[]⟩,.string ⟨#[]⟩,.slice none 0 0,.slice none 0 0,.slice none 0 0,.slice none 0 0] 28);have e3:=heap_alloc_new ((w.alloc (.cells #[.slice so ws.length sc,.int .i64 0,.int .i64 (nb:Int),.int .i64 0] 66)).alloc (.cells #[.int .i64 0,.int .i64 0,.string ⟨#[]⟩,.int .i64 0,.string ⟨#[]⟩,.string ⟨#[]⟩,.slice none 0 0,.slice none 0 0,.slice none 0 0,.slice none 0 0] 28)) (.cells #[.int .i64 0,.int .i64 0] 60);rw [World.size_alloc] at e2;rw [World.size_alloc,World.size_alloc] at e3;refine ⟨hb,by rw [← hW];simp,⟨⟨?_,hr.bt (B:=w.heap.size) (fun g off e=>by have:=ha g off e;omega) (Bt.of hb),hc,fun g off e=>by have:=ha g off e;omega,hf,Nat.zero_le _,Nat.zero_le _⟩,hO.keep hb,by have:=hO.lt;omega⟩,?_,?_⟩
 · rw [← hW];exact (Below.heap_alloc _ _ _ (by simp;omega)).trans ((Below.heap_alloc _ _ _ (by simp)).trans e1)
 · rw [← hW];exact (Below.heap_alloc _ _ _ (by simp)).trans e2
 · rw [← hW];exact e3
def PsE (R:Pr NT) (lo:Nat) (w':World) (d:NV) (er q:Nat):Prop:=match R with
 | .ok T _ _=>NdI (fun b=>lo≤b) w' T d∧er=0∧q=0
 | .bad er' q'=>d=nv0∧er=er'∧q=q'
theorem caughtX {so:Option Addr} {sc:Nat} {ws:List Tok} {nb:Nat} {X:PM NT} (w:World) (hr:TRow w so ws) (hc:ws.length≤sc) (hf:ws.length≤16777216) (ha:∀ g off,so=some ⟨g,off,none⟩→g<w.heap.size) (hO:OpsX w)
 (hwh:q1X w.heap.size so sc ws nb 45 0 X):
 Calls Tryz.prog 29 #[.agg #[.slice so ws.length sc,.int .i64 0,.int .i64 (nb:Int),.int .i64 0]] w fun e w'=>∃ (d:NV) (er q:Nat),e= .returned (.tuple #[d.v,.agg #[.int .i64 (er:Int),.int .i64 (q:Int)]])∧Below w.heap.size w w'∧PsE (X 0 0) w.heap.size w' d er q:=by
 have hmf:∀ (fn:Fn) (first cap:Array Value) (w:World),(Instr.makeFunc fn first cap).run Tryz.prog w= .ok (.func fn first cap) w:=fun _ _ _ _=>rfl;obtain ⟨W0,hW0⟩:∃ W0,((w.alloc (.cells #[.slice so ws.length sc,.int .i64 0,.int .i64 (nb:Int),.int .i64 0] 66)).alloc (.cells #[.int .i64 0,.int .i64 0,.string ⟨#[]⟩,.int .i64 0,.string ⟨#[]⟩,.string ⟨#[]⟩,.slice none 0 0,.slice none 0 0,.slice none 0 0,.slice none 0 0] 28)).alloc (.cells #[.int .i64 0,.int .i64 0] 60)=W0:=⟨_,rfl⟩;have HC:=hQz (cgX_new hr hc hf ha hO hW0);have HRd:=hQz (hwh (fun b=>w.heap.size+3≤b) W0 0 0 (fun b hb=>by have:=HC.out.size;omega) (fun b hb=>by omega) HC.out.px (Nat.le_refl _));obtain ⟨R,hR⟩:∃ R,X 0 0=R:=⟨_,rfl⟩;rw [hR] at HRd ⊢;clear hr hc hf ha hO hwh hR
 go_enter_defers Tryz.func29,Tryz.ntmps29
 go_wp2_with fail;refine HRd.out.mono ?_;rintro e w1 ⟨hb1,hm⟩;have hs:=HC.out.size;have qv:=(hb1.block (w.heap.size+1) (by omega) (by omega)).trans HC.out.res;have qf:=(hb1.block (w.heap.size+2) (by omega) (by omega)).trans HC.out.flt;have hbw:Below w.heap.size w w1:=HC.out.below.trans (hb1.below (by omega) (Nat.le_refl _))
 cases R with
 | bad er q=>
  obtain rfl:e= .panicked (fcs er q):=hm;refine leaves_cons (f:=44) (args:= #[.pointer (some ⟨w.heap.size+2,0,none⟩)]) (by simp) (by simp [go_sem]) ?_;refine (catch_panX (w.heap.size+2) er q _ _ w1 qf).mono ?_;rintro e u' w2 ⟨rfl,rfl,hw2⟩;have P2:=fb_set qf hw2.symm;have qv2:=(P2.rest (w.heap.size+1) (by omega)).trans qv;have hb2:Below w.heap.size w w2:=hbw.trans (P2.below (by omega));obtain ⟨d0,d1,d2,d3,d4,d5,d6,d7,d8,d9⟩:=q00 qv2;obtain ⟨b0,b1,_⟩:=q2g P2.new;clear hw2;simp [Leaves,settle,results,Tryz.results29,go_sem,d0,d1,d2,d3,d4,d5,d6,d7,d8,d9,b0,b1];exact ⟨nv0,er,q,⟨rfl,rfl,rfl⟩,hb2,rfl,rfl,rfl⟩
 | ok T t1 o1=>
  obtain ⟨⟨v,rfl,d,rfl,hd⟩,_⟩:=hm;have HQ:=hQz (And.intro qv (And.intro qf (And.intro hbw hd)));obtain ⟨n0,n1,n2,n3,n4,n5,n6,n7,n8,n9⟩:=q00 qv;obtain ⟨f0,f1,f2,f3,f4,f5,f6,f7,f8,f9⟩:=q03 qv;obtain ⟨g0,g1,h0,h1⟩:=q2g qf;obtain ⟨op1,at1,vk1,tx1,nu1,vt1,io1,yo1,no1,ko1,iN1,ic1,yN1,yc1,nN1,nc1,kN1,kc1⟩:=d;unfold NV.v NV.l;dsimp only;clear qv qf hbw hd hb1 hs;go_wp2_with fail;obtain ⟨qv,qf,hbw,hd⟩:=HQ.out;generalize hz2:((((((((((w1).setCell ⟨w.heap.size+1,0,none⟩ (.int .i64 op1)).setCell ⟨w.heap.size+1,1,none⟩ (.int .i64 at1)).setCell ⟨w.heap.size+1,2,none⟩ (.string tx1)).setCell ⟨w.heap.size+1,3,none⟩ (.int .i64 vk1)).setCell ⟨w.heap.size+1,4,none⟩ (.string nu1)).setCell ⟨w.heap.size+1,5,none⟩ (.string vt1)).setCell ⟨w.heap.size+1,6,none⟩ (.slice io1 iN1 ic1)).setCell ⟨w.heap.size+1,7,none⟩ (.slice yo1 yN1 yc1)).setCell ⟨w.heap.size+1,8,none⟩ (.slice no1 nN1 nc1)).setCell ⟨w.heap.size+1,9,none⟩ (.slice ko1 kN1 kc1)=W2;have P2:=q0J qv hz2;have qf2:=(P2.rest (w.heap.size+2) (by omega)).trans qf;generalize hz3:(W2.setCell ⟨w.heap.size+1+1,0,none⟩ (.int .i64 0)).setCell ⟨w.heap.size+1+1,1,none⟩ (.int .i64 0)=W3;have P3:=fb_set (B:=w.heap.size+2) qf2 hz3;have qv3:=(P3.rest (w.heap.size+1) (by omega)).trans P2.new;have hb3:Below w.heap.size w W3:=hbw.trans ((P2.below (by omega)).trans (P3.below (by omega)));have hd3:NdI (fun b=>w.heap.size≤b) W3 T _:=hd.keep (by rw [P3.size,P2.size];exact Nat.le_refl _) (fun b hb _=>(P3.rest b (by omega)).trans (P2.rest b (by omega))) (fun b hb _=>by omega);refine leaves_cons (f:=44) (args:= #[.pointer (some ⟨w.heap.size+2,0,none⟩)]) (by simp) (by simp [go_sem]) ?_;refine (catch_idlX (w.heap.size+2) W3).mono ?_;rintro e u' w4 ⟨rfl,rfl,rfl⟩;clear hz2 hz3;obtain ⟨d0,d1,d2,d3,d4,d5,d6,d7,d8,d9⟩:=q00 qv3;obtain ⟨r0,r1,_⟩:=q2g P3.new;simp [Leaves,settle,results,Tryz.results29,go_sem,d0,d1,d2,d3,d4,d5,d6,d7,d8,d9,r0,r1];exact ⟨⟨op1,at1,vk1,tx1,nu1,vt1,io1,yo1,no1,ko1,iN1,ic1,yN1,yc1,nN1,nc1,kN1,kc1⟩,0,0,⟨rfl,rfl,rfl⟩,hb3,hd3,rfl,rfl⟩
end Go.Proofs.YtdjleoglphgdgaaGreatDoor
