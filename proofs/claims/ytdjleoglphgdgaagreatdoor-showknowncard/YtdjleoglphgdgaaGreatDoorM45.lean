import Derived.Test.YtdjleoglphgdgaaGreatDoorM44
set_option linter.unusedVariables false
set_option linter.unusedSimpArgs false
namespace Go.Proofs.YtdjleoglphgdgaaGreatDoor
open Go.RowKit Go.Shelf
attribute [local go_sem] Oper.semAt_some
section
variable {B:Nat} {so:Option Addr} {sc:Nat} {ws:List Tok} {nb:Nat} {m:Nat} {P:PM NT} {O:Nat→PM NT}
set_option maxRecDepth 100000 in
set_option maxHeartbeats 3200000 in
theorem operandX (h:PO B so sc ws nb (m+1) P O) (hu:q1X B so sc ws nb 196 m (q2m ws nb P O)) (least:Nat) (hl1:1≤least):NodeA B so sc ws nb 225 #[.pointer (some ⟨B,0,none⟩),.int .i64 (least:Int)] m (q2e ws nb P O least):=by
 intro D u t o dn db hx hm;obtain ⟨R,hR⟩:∃ R,q2e ws nb P O least t o=R:=⟨_,rfl⟩;rw [hR];unfold q2e at hR;have HR:=hQz hR;have HPO:=hQz h;have HS0:=hQz (SB.new (Fl:=false) (tr:=[]) hx dn db (fun q hq=>by simp at hq));have HX:=hQz (And.intro hx.pat.le hx.pat.open_);have HM:=hQz hm;have hfl0:=Tryz.fldX0;have hfl1:=Tryz.fldX1;have hfl3:=Tryz.fldX3;clear hR h hx hm dn db;have HUn:=hQz hu;clear hu;go_in;go_wp2_with fail;have HS1:=hQz (HS0.out.al0);refine PxR.on (HUn.out _ _ _ _ HS1.out.dnW HS1.out.dbW HS1.out.px HM.out) (fun er q w hr hb=>⟨rfl,(HS1.out.bo.trans (Bo.ofBt hb)).toBt,by rw [← HR.out,q04 hr]⟩) ?_;intro T2 t2 o2 v w1 hr hb hp hE;replace HR:=hQz ((q02 hr).symm.trans HR.out);(try dsimp only at HR)
 have HL1:=hQz (mv_unary (nb:=nb) HPO.out.mp HPO.out.mo _ HS1.out.px.pat.le _ _ _ _ hr);have HQ1:=hQz hr;have HS2:=hQz (HS1.out.step hb hp);clear hb hp hr;obtain ⟨d,rfl,hd⟩:=hE;have HS3:=hQz (HS2.out.add hd);clear hd;obtain ⟨op2,at2,vk2,tx2,nu2,vt2,io2,yo2,no2,ko2,iN2,ic2,yN2,yc2,nN2,nc2,kN2,kc2⟩:=d;unfold NV.v NV.l;dsimp only;go_wp2_with fail;refine (behindX HPO.out least hl1 _ _ _ _ T2 ⟨op2,at2,vk2,tx2,nu2,vt2,io2,yo2,no2,ko2,iN2,ic2,yN2,yc2,nN2,nc2,kN2,kc2⟩ HS3.out.dnW HS3.out.dbW HS3.out.px (by have:=HL1.out;have:=HM.out;omega) HS3.out.m0).mono ?_;rintro e w9 ⟨hb,hm⟩;(try dsimp only at hm)
 have hR:=HR.out;rw [hR] at hm;obtain ⟨er,q,hr⟩|⟨T9,t9,o9,hr⟩:=q0o R
 · rw [hr] at hm;obtain rfl:e= .panicked (fcs er q):=hm;exact ⟨rfl,(HS3.out.bo.trans (Bo.ofBt hb)).toBt,by rw [hr]⟩
 rw [hr] at hm;obtain ⟨⟨v,rfl,hE⟩,hp⟩:=hm;clear HR;have HR:=hQz hr.symm;clear hr hR;have HS4:=hQz (HS3.out.step hb hp);clear hb hp;obtain ⟨d,rfl,hd⟩:=hE;have HS5:=hQz (HS4.out.add hd);clear hd;obtain ⟨op9,at9,vk9,tx9,nu9,vt9,io9,yo9,no9,ko9,iN9,ic9,yN9,yc9,nN9,nc9,kN9,kc9⟩:=d;unfold NV.v NV.l;dsimp only;obtain ⟨r0,r1,r2,r3,r4,r5,r6,r7,r8,r9⟩:=q00 HS5.out.bb0;obtain ⟨rf0,rf1,rf2,rf3,rf4,rf5,rf6,rf7,rf8,rf9⟩:=q03 HS5.out.bb0;go_wp2_with fail;refine SB.st10 HS5.out 0 rfl rfl fun WZ HZ=>q0C Tryz.results225 rfl rfl rfl HZ.bb0 ⟨HZ.bo.toBt,?_⟩;rw [← HR.out];exact ⟨⟨_,rfl,⟨op9,at9,vk9,tx9,nu9,vt9,io9,yo9,no9,ko9,iN9,ic9,yN9,yc9,nN9,nc9,kN9,kc9⟩,rfl,HZ.t0⟩,HZ.px⟩
theorem NodeA.mono {fn:FuncId} {args:Array Value} {m':Nat} {x:PM NT} (h:NodeA B so sc ws nb fn args m x) (hm:m≤m'):NodeA B so sc ws nb fn args m' x:=fun D u t o d1 d2 hx ht=>h D u t o d1 d2 hx (by omega)
theorem PO.mono {m':Nat} (h:PO B so sc ws nb m P O) (hm:m≤m'):PO B so sc ws nb m' P O:=⟨NodeA.mono h.pipe hm,fun l h1 h2=>(h.opd l h1 h2).mono hm,h.mp,h.bp,h.mo,h.bo,h.tx,h.nx⟩
theorem po_all (htx:∀ t,(hrP ws t).text.length≤140737488355000) (hnx:∀ t,(hrP ws t).at_≤1099511627776) (hpost:∀ (m:Nat) (P:PM NT) (O:Nat→PM NT),PO B so sc ws nb (m+1) P O→q1X B so sc ws nb 223 m (postP ws nb P O)):∀ n,PO B so sc ws nb (ws.length+1-n) (poP ws nb n).1 (poP ws nb n).2
 | 0=>⟨fun D u t o _ _ hx hm=>by have:=hx.pat.le;omega,fun l _ _ D u t o _ _ hx hm=>by have:=hx.pat.le;omega,q0t (mv_po (ws:=ws) (nb:=nb) 0).1 (by omega),(bl_po (ws:=ws) (nb:=nb) 0).1,fun l hl=>q0t ((mv_po (ws:=ws) (nb:=nb) 0).2 l hl) (by omega),(bl_po (ws:=ws) (nb:=nb) 0).2,htx,hnx⟩
 | n+1=>by
  have h:=(po_all htx hnx hpost n).mono (m':=ws.length+1-(n+1)+1) (by omega);have hp:=hpost _ _ _ h;have hu:=unaryX h hp;exact ⟨pipeX h (linkX h hu),fun l h1 _=>operandX h hu l h1,q0t (mv_po (ws:=ws) (nb:=nb) (n+1)).1 (by omega),(bl_po (ws:=ws) (nb:=nb) (n+1)).1,fun l hl=>q0t ((mv_po (ws:=ws) (nb:=nb) (n+1)).2 l hl) (by omega),(bl_po (ws:=ws) (nb:=nb) (n+1)).2,htx,hnx⟩
end
end Go.Proofs.YtdjleoglphgdgaaGreatDoor
