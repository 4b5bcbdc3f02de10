import Derived.Test.YtnokkmiaeacogaaGreatM21
import Derived.Lib.QuietBelow
import Derived.BigQuiet
import Derived.Test.YtnokkmiaeacogaaGreatM10
set_option linter.unusedVariables false
set_option linter.unusedSimpArgs false
namespace Go.Proofs.YtnokkmiaeacogaaGreat
open Go.RowKit Go.Shelf Go.Sort
attribute [local go_sem] Oper.semAt_some
set_option maxRecDepth 100000
set_option maxHeartbeats 12800000
theorem q02 {W:World} {h:Nat} {T:TT} {v:Value} (hI:InT W h T v):∃ (a b c d:Bool) (e:Option Addr × Nat × Nat) (f:Bool) (g i j:Option Addr × Nat × Nat),v= .agg #[.bool a,.bool b,.bool c,.bool d,.slice e.1 e.2.1 e.2.2,.bool f,.slice g.1 g.2.1 g.2.2,.slice i.1 i.2.1 i.2.2,.slice j.1 j.2.1 j.2.2]:=by
 cases h with
 | zero=>exact hI.elim
 | succ h=>
  obtain ⟨no,nc,xo,xc,ao,ac,oo,oc,e,_⟩:=hI;exact ⟨_,_,_,_,(no,_,nc),_,(xo,_,xc),(ao,_,ac),(oo,_,oc),e⟩
structure OB.At (h:Nat) (o:OB) (wr:World) (b off:Nat) (ko:Option Addr) (kc:Nat) (fo:Option Addr) (NF fc:Nat) (mo:Option Addr) (mc:Nat):Prop where
 lt:b<wr.heap.size
 ck:wr.cell? ⟨b,off,none⟩=some (.slice ko o.names.length kc)
 cf:wr.cell? ⟨b,off+1,none⟩=some (.slice fo NF fc)
 cm:wr.cell? ⟨b,off+2,none⟩=some (.slice mo o.must.length mc)
 cap:NF≤fc∧NF≤140737488355328
 rest:∃ c0 c1 c2 c3 c4 c5 c6 c7 c8:Value,C9 wr b (off+3) c0 c1 c2 c3 c4 c5 c6 c7 c8∧InT wr h o.rest (.agg #[c0,c1,c2,c3,c4,c5,c6,c7,c8])
 field:∀ fs,o.fields=fs→∀ j,(hj:j<fs.length)→∃ b2 off2,fo=some ⟨b2,off2,none⟩∧b2<wr.heap.size∧∃ d0 d1 d2 d3 d4 d5 d6 d7 d8:Value,C9 wr b2 (off2+j*9) d0 d1 d2 d3 d4 d5 d6 d7 d8∧InT wr h fs[j] (.agg #[d0,d1,d2,d3,d4,d5,d6,d7,d8])
theorem OB.At.keep {h:Nat} {o:OB} {wr u:World} {b off:Nat} {ko:Option Addr} {kc:Nat} {fo:Option Addr} {NF fc:Nat} {mo:Option Addr} {mc:Nat} (x:OB.At h o wr b off ko kc fo NF fc mo mc) (hb:Below wr.heap.size wr u):OB.At h o u b off ko kc fo NF fc mo mc:=by
 refine ⟨Nat.lt_of_lt_of_le x.lt hb.size,(hb.cell (p:=⟨_,_,_⟩) x.lt).trans x.ck,(hb.cell (p:=⟨_,_,_⟩) x.lt).trans x.cf,(hb.cell (p:=⟨_,_,_⟩) x.lt).trans x.cm,x.cap,?_,fun fs hfs j hj=> ?_⟩
 · obtain ⟨c0,c1,c2,c3,c4,c5,c6,c7,c8,h1,h2⟩:=x.rest;exact ⟨c0,c1,c2,c3,c4,c5,c6,c7,c8,h1.keep hb x.lt,h2.keep hb⟩
 · obtain ⟨b2,off2,e,hl,d0,d1,d2,d3,d4,d5,d6,d7,d8,h1,h2⟩:=x.field fs hfs j hj;exact ⟨b2,off2,e,Nat.lt_of_lt_of_le hl hb.size,d0,d1,d2,d3,d4,d5,d6,d7,d8,h1.keep hb hl,h2.keep hb⟩
theorem w_typeParts:∀ (h:Nat) (T:TT) (v:Value) (w:World) (most:Int),InT w h T v→tpN h T≤1048576→0≤most→most≤20000→Calls Tryz.prog 56 #[v,.int .i64 most] w fun e w'=>e= .returned (.int .i64 (ptF h T most))∧Below w.heap.size w w':=by
 intro h
 induction h with
 | zero=>intro T v w most hI;exact hI.elim
 | succ h ih=>
  intro T v w most hI htp h0 h1;obtain ⟨no,nc,xo,xc,ao,ac,oo,oc,rfl,⟨a1,a2,a3,a4⟩,⟨a5,a6,a7,a8⟩,_,_,hs,hk,ha,ho⟩:=hI;have HIh:Hid (∀ (T:TT) (v:Value) (u:World) (m:Int),InT u h T v→tpN h T≤1048576→0≤m→m≤20000→Calls Tryz.prog 56 #[v,.int .i64 m] u fun e w'=>e= .returned (.int .i64 (ptF h T m))∧Below u.heap.size u w'):=ih;have htp':1+T.texts.length+T.nums.length+sumL (T.arrs.map fun a=>tpN h a.item)+sumL (T.objs.map fun o=>o.names.length+o.must.length+tpN h o.rest+sumL (o.fields.map (tpN h)))≤1048576:=htp;obtain ⟨gO,hgO⟩:∃ gO:OB→Int→Int,gO=fun o n=>gaG most (fun t n=>n+ptF h t (most-n)) o.fields (n+(o.names.length:Int)+(o.must.length:Int)+ptF h o.rest (most-n)):=⟨_,rfl⟩;have HgO:Hid (∀ o n,gO o n=gaG most (fun t n=>n+ptF h t (most-n)) o.fields (n+(o.names.length:Int)+(o.must.length:Int)+ptF h o.rest (most-n))):=fun o n=>by rw [hgO]
  obtain ⟨R,hR⟩:∃ R,ptF (h+1) T most=R:=⟨_,rfl⟩;have hR':gaG most gO T.objs (gaG most (fun a n=>n+ptF h a.item (most-n)) T.arrs (1+(T.texts.length:Int)+(T.nums.length:Int)))=R:=by rw [← hR,hgO];rfl
  rw [hR];obtain ⟨rs,hrs⟩:∃ rs,T.arrs=rs:=⟨_,rfl⟩;obtain ⟨os,hos⟩:∃ os,T.objs=os:=⟨_,rfl⟩;rw [hrs] at ha htp' hR' a3 a7 ⊢;rw [hos] at ho htp' hR' a4 a8 ⊢;obtain ⟨R1,hR1⟩:∃ R1,gaG most (fun a n=>n+ptF h a.item (most-n)) rs (1+(T.texts.length:Int)+(T.nums.length:Int))=R1:=⟨_,rfl⟩;rw [hR1] at hR';obtain ⟨NA,hNA⟩:∃ NA,rs.length=NA:=⟨_,rfl⟩;obtain ⟨NO,hNO⟩:∃ NO,os.length=NO:=⟨_,rfl⟩;have HNA:=hQz hNA;have HNO:=hQz hNO;rw [hNA] at a3 a7 ⊢;rw [hNO] at a4 a8 ⊢
  have HAB:Hid (∀ i,(hi:i<rs.length)→tpN h rs[i].item≤1048576):=by
   intro i hi;have:=q0s (List.mem_map.2 ⟨_,List.getElem_mem hi,rfl⟩:(fun a:AR=>tpN h a.item) rs[i]∈rs.map fun a=>tpN h a.item);have this':tpN h rs[i].item≤sumL (rs.map fun a=>tpN h a.item):=this;omega
  have HOB:Hid (∀ i,(hi:i<os.length)→os[i].names.length+os[i].must.length+tpN h os[i].rest+sumL (os[i].fields.map (tpN h))≤1048576):=by
   intro i hi;have:=q0s (List.mem_map.2 ⟨_,List.getElem_mem hi,rfl⟩:(fun o:OB=>o.names.length+o.must.length+tpN h o.rest+sumL (o.fields.map (tpN h))) os[i]∈os.map fun o=>o.names.length+o.must.length+tpN h o.rest+sumL (o.fields.map (tpN h)));have this':os[i].names.length+os[i].must.length+tpN h os[i].rest+sumL (os[i].fields.map (tpN h))≤sumL (os.map fun o=>o.names.length+o.must.length+tpN h o.rest+sumL (o.fields.map (tpN h))):=this;omega
  have HAr:Hid (∀ i,(hi:i<rs.length)→∀ u,Below w.heap.size w u→∃ b off,ao=some ⟨b,off,none⟩∧∃ c0 c1 c2 c3 c4 c5 c6 c7 c8:Value,C9 u b (off+i*11) c0 c1 c2 c3 c4 c5 c6 c7 c8∧InT u h rs[i].item (.agg #[c0,c1,c2,c3,c4,c5,c6,c7,c8])):=by
   intro i hi u hu;obtain ⟨b,off,e,hl,hc⟩:=ha (by omega);obtain ⟨c0,c1,c2,c3,c4,c5,c6,c7,c8,h1,_,_,h4⟩:=hc i hi;exact ⟨b,off,e,c0,c1,c2,c3,c4,c5,c6,c7,c8,h1.keep hu hl,h4.keep hu⟩
  have HOb:Hid (∀ k,(hk:k<os.length)→∀ u,Below w.heap.size w u→∃ b off,oo=some ⟨b,off,none⟩∧∃ ko kc fo NF fc mo mc,os[k].fields.length=NF∧OB.At h os[k] u b (off+k*12) ko kc fo NF fc mo mc):=by
   intro k hk u hu;obtain ⟨b,off,e,hl,hc⟩:=ho (by omega);obtain ⟨ko,kc,fo,fc,mo,mc,c0,c1,c2,c3,c4,c5,c6,c7,c8,⟨g1,g2,g3⟩,k1,⟨_,k2,_⟩,⟨_,k3,_,_⟩,_,_,h6,h7⟩:=hc k hk;refine ⟨b,off,e,ko,kc,fo,_,fc,mo,mc,rfl,?_⟩
   have hat:OB.At h os[k] w b (off+k*12) ko kc fo os[k].fields.length fc mo mc:=⟨hl,g1,g2,g3,⟨k2,k3⟩,⟨c0,c1,c2,c3,c4,c5,c6,c7,c8,k1,h7⟩,fun fs hfs j hj=>by
    subst hfs;obtain ⟨b2,off2,e2,hl2,hd⟩:=h6 (by omega);obtain ⟨d0,d1,d2,d3,d4,d5,d6,d7,d8,q1,q2⟩:=hd j hj;exact ⟨b2,off2,e2,hl2,d0,d1,d2,d3,d4,d5,d6,d7,d8,q1,q2⟩⟩
   exact hat.keep hu
  have HX:=hQz (tbx_new w (.bool T.all) (.bool T.nul) (.bool T.fls) (.bool T.tru) (.slice no T.nums.length nc) (.bool T.any) (.slice xo T.texts.length xc) (.slice ao NA ac) (.slice oo NO oc));have hxn:T.texts.length≤1048576:=by omega
  have hnn:T.nums.length≤1048576:=by omega
  have HR1:=hQz hR1;have HR:=hQz hR';generalize T.all=b0 at *;generalize T.nul=b1 at *;generalize T.fls=b2 at *;generalize T.tru=b3 at *;generalize T.any=b5 at *;obtain ⟨nn,hnn'⟩:∃ nn,T.nums.length=nn:=⟨_,rfl⟩;obtain ⟨nx,hnx'⟩:∃ nx,T.texts.length=nx:=⟨_,rfl⟩;rw [hnn'] at HX hnn HR1 a1 a5 ⊢;rw [hnx'] at HX hxn HR1 a2 a6 ⊢;obtain ⟨W0,hW0⟩:∃ W0,W0=w.alloc (.cells #[.bool b0,.bool b1,.bool b2,.bool b3,.slice no nn nc,.bool b5,.slice xo nx xc,.slice ao NA ac,.slice oo NO oc] 27):=⟨_,rfl⟩;rw [← hW0] at HX;have HW0:=hQz hW0;have s4:=HX.out.c4;have s6:=HX.out.c6;clear ih ha ho hs hk htp htp' hR hR' hR1 hrs hos hNA hNO hgO hnn' hnx' hW0;have hW0':=HW0.out.symm;go_enter Tryz.func56,Tryz.ntmps56;go_wp2_with fail;clear s4 s6 hW0'
  go_loopw [5,6] (fun nn' i wr=>∃ (n:Int) (k:Nat),0≤n∧n≤4294967296∧k≤NA∧nn'= .int .i64 n∧i= .int .i64 (k:Int)∧Hid (TBx w wr (.bool b0) (.bool b1) (.bool b2) (.bool b3) (.slice no nn nc) (.bool b5) (.slice xo nx xc) (.slice ao NA ac) (.slice oo NO oc))∧Hid (gaG most (fun a n=>n+ptF h a.item (most-n)) (rs.drop k) n=R1)) (fun _ i _=>NA-(intOf i).toNat)
  case atStart=>exact ⟨_,0,by omega,by omega,Nat.zero_le _,rfl,rfl,HX,HR1⟩
  case round=>
   clear HX HR1;obtain ⟨n,k,hn0,hn1,hk,rfl,rfl,HX1,HG1⟩:=hrel;have g7:=HX1.out.c7;by_cases hlt:k<NA
   · have hl1:(k:Int)<(NA:Int):=by omega
     have hl0:(0:Int)≤(k:Int):=by omega
     have hkr:k<rs.length:=by rw [HNA.out];exact hlt
     have hdr:rs.drop k=rs[k]::rs.drop (k+1):=List.drop_eq_getElem_cons hkr;by_cases hm:n≤most
     · have HG4:Hid (gaG most (fun a n=>n+ptF h a.item (most-n)) (rs.drop (k+1)) (n+ptF h rs[k].item (most-n))=R1):=by
        show _=_;rw [← HG1.out,hdr];show _=gaG most _ (rs[k]::rs.drop (k+1)) n;rw [gaG,if_pos hm]
       obtain ⟨rb,roff,hao,c0,c1,c2,c3,c4,c5,c6,c7,c8,hc9,hct⟩:=HAr.out k hkr wr HX1.out.below;subst hao;obtain ⟨q0,q1,q2,q3,q4,q5,q6,q7,q8⟩:=hc9;have hpl:=q0T h rs[k].item (most-n);have hpb:=HAB.out k hkr;have HC:=hQz (HIh.out rs[k].item _ wr (most-n) hct (by omega) (by omega) (by omega));obtain ⟨p,hp⟩:∃ p,ptF h rs[k].item (most-n)=p:=⟨_,rfl⟩;rw [hp] at HC HG4 hpl;have hp0:0≤p:=hpl.1;have hp1:p≤1048576:=by have:=hpl.2;omega
       obtain ⟨e0,e1,e2,e3,e4,e5,e6,e7,e8,esh⟩:=q02 hct;simp only [Value.agg.injEq,Array.mk.injEq,List.cons.injEq,and_true] at esh;obtain ⟨rfl,rfl,rfl,rfl,rfl,rfl,rfl,rfl,rfl⟩:=esh;clear hct hp hdr HG1;go_wp2_with fail;refine HC.out.mono ?_;rintro e w4 ⟨rfl,hb4⟩;have HX4:=hQz (HX1.out.keep hb4);clear hb4 HC g7 q0 q1 q2 q3 q4 q5 q6 q7 q8;go_wp2_with fail;go_roundw
       case rel=>exact ⟨n+p,k+1,by omega,by omega,hlt,by go_num,by go_num,HX4,HG4⟩
       case measure=>simp [intOf];omega
     · have hm':¬ n≤most:=hm
       have HG2:Hid (gaG most gO (os.drop 0) n=R):=by
        have e1:n=R1:=by
         rw [← HG1.out,hdr,gaG,if_neg hm]
        show _=_;rw [List.drop_zero,e1];exact HR.out
       clear hdr HG1;go_wp2_with fail;clear g7 hm hm' hlt hk hl1 hl0 hkr
       go_loopw [5,7] (fun nv i wr=>∃ (n:Int) (k:Nat),0≤n∧n≤4294967296∧k≤NO∧nv= .int .i64 n∧i= .int .i64 (k:Int)∧Hid (TBx w wr (.bool b0) (.bool b1) (.bool b2) (.bool b3) (.slice no nn nc) (.bool b5) (.slice xo nx xc) (.slice ao NA ac) (.slice oo NO oc))∧Hid (gaG most gO (os.drop k) n=R)) (fun _ i _=>NO-(intOf i).toNat)
       case atStart=>exact ⟨_,0,hn0,hn1,Nat.zero_le _,rfl,rfl,HX1,HG2⟩
       case round=>
        clear HX1 HG2 hn0 hn1;obtain ⟨n,k,hn0,hn1,hk,rfl,rfl,HX2,HG2⟩:=hrel;have g8:=HX2.out.c8;by_cases hlt:k<NO
        · have hl1:(k:Int)<(NO:Int):=by omega
          have hl0:(0:Int)≤(k:Int):=by omega
          have hko:k<os.length:=by rw [HNO.out];exact hlt
          have hdo:os.drop k=os[k]::os.drop (k+1):=List.drop_eq_getElem_cons hko;by_cases hm:n≤most
          · obtain ⟨ob,ooff,hoo,ko,kc,fo,NF,fc,mo,mc,hNF,hat⟩:=HOb.out k hko wr HX2.out.below;subst hoo;have hcb:=HOB.out k hko;obtain ⟨fs,hfs⟩:∃ fs,os[k].fields=fs:=⟨_,rfl⟩;have HFS:=hQz hfs;have HNF:Hid (fs.length=NF):=by show _=_;rw [← hfs];exact hNF
            have HFB:Hid (∀ j,(hj:j<fs.length)→tpN h fs[j]≤1048576):=by
             intro j hj;subst hfs;have:=q0s (List.mem_map.2 ⟨_,List.getElem_mem hj,rfl⟩:tpN h os[k].fields[j]∈os[k].fields.map (tpN h));omega
            obtain ⟨R3,hR3⟩:∃ R3,gO os[k] n=R3:=⟨_,rfl⟩
            have HG2':Hid (gaG most gO (os.drop (k+1)) R3=R):=by
             show _=_;rw [← HG2.out,hdo,gaG,if_pos hm,hR3]
            have hpl:=q0T h os[k].rest (most-n)
            have HR30:Hid (gaG most (fun t n=>n+ptF h t (most-n)) fs (n+(os[k].names.length:Int)+(os[k].must.length:Int)+ptF h os[k].rest (most-n))=R3):=by
             show _=_;rw [← hR3,HgO.out,← hfs]
            obtain ⟨p,hp⟩:∃ p,ptF h os[k].rest (most-n)=p:=⟨_,rfl⟩;obtain ⟨r0,r1,r2,r3,r4,r5,r6,r7,r8,hr9,hrt⟩:=hat.rest;obtain ⟨q0,q1,q2,q3,q4,q5,q6,q7,q8⟩:=hr9;have HC:=hQz (fun (d:Nat) (os':Array Obj)=>HIh.out os[k].rest _ (grow (redrawn wr d) os') (most-n) (hrt.keep (below_regrown wr d os')) (by omega) (by omega) (by omega));rw [hp] at HC HR30 hpl;obtain ⟨e0,e1,e2,e3,e4,e5,e6,e7,e8,esh⟩:=q02 hrt;simp only [Value.agg.injEq,Array.mk.injEq,List.cons.injEq,and_true] at esh;obtain ⟨rfl,rfl,rfl,rfl,rfl,rfl,rfl,rfl,rfl⟩:=esh;have hp0:0≤p:=hpl.1;have hp1:p≤1048576:=by have:=hpl.2;omega
            have hnm:os[k].names.length≤1048576:=by omega
            have hms:os[k].must.length≤1048576:=by omega
            obtain ⟨KN,hKN⟩:∃ KN,os[k].names.length=KN:=⟨_,rfl⟩;obtain ⟨KM,hKM⟩:∃ KM,os[k].must.length=KM:=⟨_,rfl⟩;have gk:=hat.ck;have gm:=hat.cm;rw [hKN] at gk hnm HR30;rw [hKM] at gm hms HR30;have HAt:=hQz hat;have A8:=fun d os=>cell_regrown g8 d os;have AK:=fun d os=>cell_regrown gk d os;have AM:=fun d os=>cell_regrown gm d os;have B0:=fun d os=>cell_regrown q0 d os;have B1:=fun d os=>cell_regrown q1 d os;have B2:=fun d os=>cell_regrown q2 d os;have B3:=fun d os=>cell_regrown q3 d os;have B4:=fun d os=>cell_regrown q4 d os;have B5:=fun d os=>cell_regrown q5 d os;have B6:=fun d os=>cell_regrown q6 d os;have B7:=fun d os=>cell_regrown q7 d os;have B8:=fun d os=>cell_regrown q8 d os;clear hat hrt hp hdo hR3 hfs hNF hcb HG2 hKN hKM;go_wp2_with fail;refine wp_region_quiet_below (by kernel_rfl) (by kernel_rfl) ?_
            repeat (go_big_quiet_step (exact Calls.regrown_of (HC.out _ _)))
            refine wpQuiet_nil ?_;intro w9 hw'
            have hb9:Below wr.heap.size wr w9:=by
             obtain ⟨⟨dq,osq⟩,rfl⟩:=hw';exact below_regrown wr dq osq
            have HX9:=hQz (HX2.out.keep hb9);have HAt9:=hQz (HAt.out.keep hb9);have hNFb:NF≤140737488355328:=HAt9.out.cap.2;have hNFc:NF≤fc:=HAt9.out.cap.1;have HR3:Hid (gaG most (fun t n=>n+ptF h t (most-n)) (fs.drop 0) (n+(KN:Int)+(KM:Int)+p)=R3):=HR30;clear hw' hb9 HC A8 AK AM B0 B1 B2 B3 B4 B5 B6 B7 B8 q0 q1 q2 q3 q4 q5 q6 q7 q8 gk gm g8 HR30 HX2 HAt;go_wp2_with fail
            go_loopw [5,8] (fun nv i wr=>∃ (m:Int) (j:Nat),0≤m∧m≤4294967296∧j≤NF∧nv= .int .i64 m∧i= .int .i64 (j:Int)∧Hid (TBx w wr (.bool b0) (.bool b1) (.bool b2) (.bool b3) (.slice no nn nc) (.bool b5) (.slice xo nx xc) (.slice ao NA ac) (.slice (some ⟨ob,ooff,none⟩) NO oc))∧Hid (gaG most (fun t n=>n+ptF h t (most-n)) (fs.drop j) m=R3)∧Hid (OB.At h os[k] wr ob (ooff+k*12) ko kc fo NF fc mo mc)) (fun _ i _=>NF-(intOf i).toNat)
            case atStart=>exact ⟨_,0,by omega,by omega,Nat.zero_le _,rfl,rfl,HX9,HR3,HAt9⟩
            case round=>
             clear HX9 HR3 HAt9;obtain ⟨m,j,hm0,hm1,hj,rfl,rfl,HX3,HG3,HAt3⟩:=hrel;have g8:=HX3.out.c8;have gf:=HAt3.out.cf;by_cases hjl:j<NF
             · have hj1:(j:Int)<(NF:Int):=by omega
               have hj0:(0:Int)≤(j:Int):=by omega
               have hjf:j<fs.length:=by rw [HNF.out];exact hjl
               have hdr:fs.drop j=fs[j]::fs.drop (j+1):=List.drop_eq_getElem_cons hjf;by_cases hmm:m≤most
               · have HG4:Hid (gaG most (fun t n=>n+ptF h t (most-n)) (fs.drop (j+1)) (m+ptF h fs[j] (most-m))=R3):=by
                  show _=_;rw [← HG3.out,hdr];show _=gaG most _ (fs[j]::fs.drop (j+1)) m;rw [gaG,if_pos hmm]
                 obtain ⟨fb,foff,hfo,hfbl,d0,d1,d2,d3,d4,d5,d6,d7,d8,hd9,hdt⟩:=HAt3.out.field fs HFS.out j hjf;subst hfo;obtain ⟨q0,q1,q2,q3,q4,q5,q6,q7,q8⟩:=hd9;have hpl:=q0T h fs[j] (most-m);have hpb:=HFB.out j hjf;have HC:=hQz (HIh.out fs[j] _ wr (most-m) hdt (by omega) (by omega) (by omega));obtain ⟨p,hp⟩:∃ p,ptF h fs[j] (most-m)=p:=⟨_,rfl⟩;rw [hp] at HC HG4 hpl;have hp0:0≤p:=hpl.1;have hp1:p≤1048576:=by have:=hpl.2;omega
                 obtain ⟨e0,e1,e2,e3,e4,e5,e6,e7,e8,esh⟩:=q02 hdt;simp only [Value.agg.injEq,Array.mk.injEq,List.cons.injEq,and_true] at esh;obtain ⟨rfl,rfl,rfl,rfl,rfl,rfl,rfl,rfl,rfl⟩:=esh;clear hdt hp hdr HG3;go_wp2_with fail;refine HC.out.mono ?_;rintro e w4 ⟨rfl,hb4⟩;have HX4:=hQz (HX3.out.keep hb4);have HAt4:=hQz (HAt3.out.keep hb4);clear hb4 HC g8 gf q0 q1 q2 q3 q4 q5 q6 q7 q8;go_wp2_with fail;go_roundw
                 case rel=>exact ⟨m+p,j+1,by omega,by omega,hjl,by go_num,by go_num,HX4,HG4,HAt4⟩
                 case measure=>simp [intOf];omega
               · have HF3:Hid (gaG most gO (os.drop (k+1)) m=R):=by
                  have e1:m=R3:=by
                   rw [← HG3.out,hdr];rw [gaG,if_neg hmm]
                  show _=_;rw [e1];exact HG2'.out
                 have hmm':¬ m≤most:=hmm;clear hdr;go_wp2_with fail;go_roundw
                 case rel=>exact ⟨m,k+1,hm0,hm1,hlt,rfl,by go_num,HX3,HF3⟩
                 case measure=>simp [intOf];omega
             · have hj1:¬ (j:Int)<(NF:Int):=by omega
               have HF3:Hid (gaG most gO (os.drop (k+1)) m=R):=by
                have e1:m=R3:=by
                 rw [← HG3.out,List.drop_of_length_le (by rw [HNF.out];omega)];rfl
                show _=_;rw [e1];exact HG2'.out
               go_wp2_with fail;go_roundw
               case rel=>exact ⟨m,k+1,hm0,hm1,hlt,rfl,by go_num,HX3,HF3⟩
               case measure=>simp [intOf];omega
          · have hm':¬ n≤most:=hm
            obtain rfl:n=R:=by
             rw [← HG2.out,hdo,gaG,if_neg hm]
            clear hdo;go_wp2_with fail;refine bodyPost_ret (v:= .int .i64 n) (by simp [results,Tryz.results56,go_sem]) rfl ?_;exact ⟨rfl,HX2.out.below⟩
        · have hl1:¬ (k:Int)<(NO:Int):=by omega
          obtain rfl:n=R:=by
           rw [← HG2.out,List.drop_of_length_le (by rw [HNO.out];omega)];rfl
          go_wp2_with fail;refine bodyPost_ret (v:= .int .i64 n) (by simp [results,Tryz.results56,go_sem]) rfl ?_;exact ⟨rfl,HX2.out.below⟩
   · have hl1:¬ (k:Int)<(NA:Int):=by omega
     have HG2:Hid (gaG most gO (os.drop 0) n=R):=by
      have e1:n=R1:=by
       rw [← HG1.out,List.drop_of_length_le (by rw [HNA.out];omega)];rfl
      show _=_;rw [List.drop_zero,e1];exact HR.out
     clear HG1;go_wp2_with fail;clear g7 hlt hk hl1
     go_loopw [5,7] (fun nv i wr=>∃ (n:Int) (k:Nat),0≤n∧n≤4294967296∧k≤NO∧nv= .int .i64 n∧i= .int .i64 (k:Int)∧Hid (TBx w wr (.bool b0) (.bool b1) (.bool b2) (.bool b3) (.slice no nn nc) (.bool b5) (.slice xo nx xc) (.slice ao NA ac) (.slice oo NO oc))∧Hid (gaG most gO (os.drop k) n=R)) (fun _ i _=>NO-(intOf i).toNat)
     case atStart=>exact ⟨_,0,hn0,hn1,Nat.zero_le _,rfl,rfl,HX1,HG2⟩
     case round=>
      clear HX1 HG2 hn0 hn1;obtain ⟨n,k,hn0,hn1,hk,rfl,rfl,HX2,HG2⟩:=hrel;have g8:=HX2.out.c8;by_cases hlt:k<NO
      · have hl1:(k:Int)<(NO:Int):=by omega
        have hl0:(0:Int)≤(k:Int):=by omega
        have hko:k<os.length:=by rw [HNO.out];exact hlt
        have hdo:os.drop k=os[k]::os.drop (k+1):=List.drop_eq_getElem_cons hko;by_cases hm:n≤most
        · obtain ⟨ob,ooff,hoo,ko,kc,fo,NF,fc,mo,mc,hNF,hat⟩:=HOb.out k hko wr HX2.out.below;subst hoo;have hcb:=HOB.out k hko;obtain ⟨fs,hfs⟩:∃ fs,os[k].fields=fs:=⟨_,rfl⟩;have HFS:=hQz hfs;have HNF:Hid (fs.length=NF):=by show _=_;rw [← hfs];exact hNF
          have HFB:Hid (∀ j,(hj:j<fs.length)→tpN h fs[j]≤1048576):=by
           intro j hj;subst hfs;have:=q0s (List.mem_map.2 ⟨_,List.getElem_mem hj,rfl⟩:tpN h os[k].fields[j]∈os[k].fields.map (tpN h));omega
          obtain ⟨R3,hR3⟩:∃ R3,gO os[k] n=R3:=⟨_,rfl⟩
          have HG2':Hid (gaG most gO (os.drop (k+1)) R3=R):=by
           show _=_;rw [← HG2.out,hdo,gaG,if_pos hm,hR3]
          have hpl:=q0T h os[k].rest (most-n)
          have HR30:Hid (gaG most (fun t n=>n+ptF h t (most-n)) fs (n+(os[k].names.length:Int)+(os[k].must.length:Int)+ptF h os[k].rest (most-n))=R3):=by
           show _=_;rw [← hR3,HgO.out,← hfs]
          obtain ⟨p,hp⟩:∃ p,ptF h os[k].rest (most-n)=p:=⟨_,rfl⟩;obtain ⟨r0,r1,r2,r3,r4,r5,r6,r7,r8,hr9,hrt⟩:=hat.rest;obtain ⟨q0,q1,q2,q3,q4,q5,q6,q7,q8⟩:=hr9;have HC:=hQz (fun (d:Nat) (os':Array Obj)=>HIh.out os[k].rest _ (grow (redrawn wr d) os') (most-n) (hrt.keep (below_regrown wr d os')) (by omega) (by omega) (by omega));rw [hp] at HC HR30 hpl;obtain ⟨e0,e1,e2,e3,e4,e5,e6,e7,e8,esh⟩:=q02 hrt;simp only [Value.agg.injEq,Array.mk.injEq,List.cons.injEq,and_true] at esh;obtain ⟨rfl,rfl,rfl,rfl,rfl,rfl,rfl,rfl,rfl⟩:=esh;have hp0:0≤p:=hpl.1;have hp1:p≤1048576:=by have:=hpl.2;omega
          have hnm:os[k].names.length≤1048576:=by omega
          have hms:os[k].must.length≤1048576:=by omega
          obtain ⟨KN,hKN⟩:∃ KN,os[k].names.length=KN:=⟨_,rfl⟩;obtain ⟨KM,hKM⟩:∃ KM,os[k].must.length=KM:=⟨_,rfl⟩;have gk:=hat.ck;have gm:=hat.cm;rw [hKN] at gk hnm HR30;rw [hKM] at gm hms HR30;have HAt:=hQz hat;have A8:=fun d os=>cell_regrown g8 d os;have AK:=fun d os=>cell_regrown gk d os;have AM:=fun d os=>cell_regrown gm d os;have B0:=fun d os=>cell_regrown q0 d os;have B1:=fun d os=>cell_regrown q1 d os;have B2:=fun d os=>cell_regrown q2 d os;have B3:=fun d os=>cell_regrown q3 d os;have B4:=fun d os=>cell_regrown q4 d os;have B5:=fun d os=>cell_regrown q5 d os;have B6:=fun d os=>cell_regrown q6 d os;have B7:=fun d os=>cell_regrown q7 d os;have B8:=fun d os=>cell_regrown q8 d os;clear hat hrt hp hdo hR3 hfs hNF hcb HG2 hKN hKM;go_wp2_with fail;refine wp_region_quiet_below (by kernel_rfl) (by kernel_rfl) ?_
          repeat (go_big_quiet_step (exact Calls.regrown_of (HC.out _ _)))
          refine wpQuiet_nil ?_;intro w9 hw'
          have hb9:Below wr.heap.size wr w9:=by
           obtain ⟨⟨dq,osq⟩,rfl⟩:=hw';exact below_regrown wr dq osq
          have HX9:=hQz (HX2.out.keep hb9);have HAt9:=hQz (HAt.out.keep hb9);have hNFb:NF≤140737488355328:=HAt9.out.cap.2;have hNFc:NF≤fc:=HAt9.out.cap.1;have HR3:Hid (gaG most (fun t n=>n+ptF h t (most-n)) (fs.drop 0) (n+(KN:Int)+(KM:Int)+p)=R3):=HR30;clear hw' hb9 HC A8 AK AM B0 B1 B2 B3 B4 B5 B6 B7 B8 q0 q1 q2 q3 q4 q5 q6 q7 q8 gk gm g8 HR30 HX2 HAt;go_wp2_with fail
          go_loopw [5,8] (fun nv i wr=>∃ (m:Int) (j:Nat),0≤m∧m≤4294967296∧j≤NF∧nv= .int .i64 m∧i= .int .i64 (j:Int)∧Hid (TBx w wr (.bool b0) (.bool b1) (.bool b2) (.bool b3) (.slice no nn nc) (.bool b5) (.slice xo nx xc) (.slice ao NA ac) (.slice (some ⟨ob,ooff,none⟩) NO oc))∧Hid (gaG most (fun t n=>n+ptF h t (most-n)) (fs.drop j) m=R3)∧Hid (OB.At h os[k] wr ob (ooff+k*12) ko kc fo NF fc mo mc)) (fun _ i _=>NF-(intOf i).toNat)
          case atStart=>exact ⟨_,0,by omega,by omega,Nat.zero_le _,rfl,rfl,HX9,HR3,HAt9⟩
          case round=>
           clear HX9 HR3 HAt9;obtain ⟨m,j,hm0,hm1,hj,rfl,rfl,HX3,HG3,HAt3⟩:=hrel;have g8:=HX3.out.c8;have gf:=HAt3.out.cf;by_cases hjl:j<NF
           · have hj1:(j:Int)<(NF:Int):=by omega
             have hj0:(0:Int)≤(j:Int):=by omega
             have hjf:j<fs.length:=by rw [HNF.out];exact hjl
             have hdr:fs.drop j=fs[j]::fs.drop (j+1):=List.drop_eq_getElem_cons hjf;by_cases hmm:m≤most
             · have HG4:Hid (gaG most (fun t n=>n+ptF h t (most-n)) (fs.drop (j+1)) (m+ptF h fs[j] (most-m))=R3):=by
                show _=_;rw [← HG3.out,hdr];show _=gaG most _ (fs[j]::fs.drop (j+1)) m;rw [gaG,if_pos hmm]
               obtain ⟨fb,foff,hfo,hfbl,d0,d1,d2,d3,d4,d5,d6,d7,d8,hd9,hdt⟩:=HAt3.out.field fs HFS.out j hjf;subst hfo;obtain ⟨q0,q1,q2,q3,q4,q5,q6,q7,q8⟩:=hd9;have hpl:=q0T h fs[j] (most-m);have hpb:=HFB.out j hjf;have HC:=hQz (HIh.out fs[j] _ wr (most-m) hdt (by omega) (by omega) (by omega));obtain ⟨p,hp⟩:∃ p,ptF h fs[j] (most-m)=p:=⟨_,rfl⟩;rw [hp] at HC HG4 hpl;have hp0:0≤p:=hpl.1;have hp1:p≤1048576:=by have:=hpl.2;omega
               obtain ⟨e0,e1,e2,e3,e4,e5,e6,e7,e8,esh⟩:=q02 hdt;simp only [Value.agg.injEq,Array.mk.injEq,List.cons.injEq,and_true] at esh;obtain ⟨rfl,rfl,rfl,rfl,rfl,rfl,rfl,rfl,rfl⟩:=esh;clear hdt hp hdr HG3;go_wp2_with fail;refine HC.out.mono ?_;rintro e w4 ⟨rfl,hb4⟩;have HX4:=hQz (HX3.out.keep hb4);have HAt4:=hQz (HAt3.out.keep hb4);clear hb4 HC g8 gf q0 q1 q2 q3 q4 q5 q6 q7 q8;go_wp2_with fail;go_roundw
               case rel=>exact ⟨m+p,j+1,by omega,by omega,hjl,by go_num,by go_num,HX4,HG4,HAt4⟩
               case measure=>simp [intOf];omega
             · have HF3:Hid (gaG most gO (os.drop (k+1)) m=R):=by
                have e1:m=R3:=by
                 rw [← HG3.out,hdr];rw [gaG,if_neg hmm]
                show _=_;rw [e1];exact HG2'.out
               have hmm':¬ m≤most:=hmm;clear hdr;go_wp2_with fail;go_roundw
               case rel=>exact ⟨m,k+1,hm0,hm1,hlt,rfl,by go_num,HX3,HF3⟩
               case measure=>simp [intOf];omega
           · have hj1:¬ (j:Int)<(NF:Int):=by omega
             have HF3:Hid (gaG most gO (os.drop (k+1)) m=R):=by
              have e1:m=R3:=by
               rw [← HG3.out,List.drop_of_length_le (by rw [HNF.out];omega)];rfl
              show _=_;rw [e1];exact HG2'.out
             go_wp2_with fail;go_roundw
             case rel=>exact ⟨m,k+1,hm0,hm1,hlt,rfl,by go_num,HX3,HF3⟩
             case measure=>simp [intOf];omega
        · have hm':¬ n≤most:=hm
          obtain rfl:n=R:=by
           rw [← HG2.out,hdo,gaG,if_neg hm]
          clear hdo;go_wp2_with fail;refine bodyPost_ret (v:= .int .i64 n) (by simp [results,Tryz.results56,go_sem]) rfl ?_;exact ⟨rfl,HX2.out.below⟩
      · have hl1:¬ (k:Int)<(NO:Int):=by omega
        obtain rfl:n=R:=by
         rw [← HG2.out,List.drop_of_length_le (by rw [HNO.out];omega)];rfl
        go_wp2_with fail;refine bodyPost_ret (v:= .int .i64 n) (by simp [results,Tryz.results56,go_sem]) rfl ?_;exact ⟨rfl,HX2.out.below⟩
theorem w_FitType (h:Nat) (T:TT) (v:Value) (w:World) (hI:InT w h T v) (htp:tpN h T≤1048576):Calls Tryz.prog 14 #[v] w fun e w'=>e= .returned (.bool (decide (tpN h T≤20000)))∧Below w.heap.size w w':=by
 have HC:=hQz (fun u (hu:Below w.heap.size w u)=>w_typeParts h T v u 20000 (hI.keep hu) htp (by omega) (by omega));have hfd:=fit_dec h T;obtain ⟨p,hp⟩:∃ p,ptF h T 20000=p:=⟨_,rfl⟩;have hpl:=q0T h T 20000;rw [hp] at HC hfd hpl;have hp0:0≤p:=hpl.1;have hp1:p≤1048576:=by have:=hpl.2;omega
 rw [← hfd];obtain ⟨a,b,c,d,e,f,g,i,j,rfl⟩:=q02 hI;obtain ⟨⟨eo,en,ec⟩,heq⟩:∃ x,x=e:=⟨_,rfl⟩;obtain ⟨⟨go,gn,gc⟩,hgq⟩:∃ x,x=g:=⟨_,rfl⟩;obtain ⟨⟨io,inn,ic⟩,hiq⟩:∃ x,x=i:=⟨_,rfl⟩;obtain ⟨⟨jo,jn,jc⟩,hjq⟩:∃ x,x=j:=⟨_,rfl⟩;subst heq hgq hiq hjq;dsimp only at HC ⊢;have HX:=hQz (tbx_new w (.bool a) (.bool b) (.bool c) (.bool d) (.slice eo en ec) (.bool f) (.slice go gn gc) (.slice io inn ic) (.slice jo jn jc));obtain ⟨W0,hW0⟩:∃ W0,w.alloc (.cells #[.bool a,.bool b,.bool c,.bool d,.slice eo en ec,.bool f,.slice go gn gc,.slice io inn ic,.slice jo jn jc] 27)=W0:=⟨_,rfl⟩;rw [hW0] at HX;obtain ⟨_,c0,c1,c2,c3,c4,c5,c6,c7,c8,_⟩:=HX.out;clear hI htp hp hpl hfd;go_enter Tryz.func14,Tryz.ntmps14;go_wp2_with fail;refine (HC.out _ HX.out.below).mono ?_;rintro e w1 ⟨rfl,hb1⟩;have HX1:=hQz (HX.out.keep hb1);clear hb1 c0 c1 c2 c3 c4 c5 c6 c7 c8 hW0;go_wp2_with fail;go_ret;exact ⟨by first|rfl|simp,HX1.out.below⟩
def bareT (b c d f:Bool) (en gn inn jn:Nat):Bool:= !(b||c||d||f)&&(en==0&&(gn==0&&(inn==0&&jn==0)))
def TT.bare (T:TT):Bool:=bareT T.nul T.fls T.tru T.any T.nums.length T.texts.length T.arrs.length T.objs.length
theorem bare_v (a b c d f:Bool) (eo go io jo:Option Addr) (en ec gn gc inn ic jn jc:Nat) (w:World) (h1:en≤140737488355328) (h2:gn≤140737488355328) (h3:inn≤140737488355328) (h4:jn≤140737488355328):
 Calls Tryz.prog 45 #[.agg #[.bool a,.bool b,.bool c,.bool d,.slice eo en ec,.bool f,.slice go gn gc,.slice io inn ic,.slice jo jn jc]] w fun e w'=>e= .returned (.bool (bareT b c d f en gn inn jn))∧Below w.heap.size w w':=by
 have HX:=hQz (tbx_new w (.bool a) (.bool b) (.bool c) (.bool d) (.slice eo en ec) (.bool f) (.slice go gn gc) (.slice io inn ic) (.slice jo jn jc));obtain ⟨W0,hW0⟩:∃ W0,w.alloc (.cells #[.bool a,.bool b,.bool c,.bool d,.slice eo en ec,.bool f,.slice go gn gc,.slice io inn ic,.slice jo jn jc] 27)=W0:=⟨_,rfl⟩;rw [hW0] at HX;obtain ⟨_,c0,c1,c2,c3,c4,c5,c6,c7,c8,_⟩:=HX.out;obtain ⟨r,hr⟩:∃ r,bareT b c d f en gn inn jn=r:=⟨_,rfl⟩;have HR:=hQz hr;rw [hr]
 cases b
 · cases c
   · cases d
     · cases f
       · by_cases k1:en=0
         · by_cases k2:gn=0
           · by_cases k3:inn=0
             · by_cases k4:jn=0
               · subst k1 k2 k3 k4;go_enter Tryz.func45,Tryz.ntmps45;go_wp2_with fail;go_ret;exact ⟨by rw [← HR.out];rfl,HX.out.below⟩
               · subst k1 k2 k3;have hr2:r=false:=by rw [← HR.out];simp [bareT,k4]
                 have k4':¬ (jn:Int)=0:=by omega
                 clear k4;go_enter Tryz.func45,Tryz.ntmps45;go_wp2_with fail;go_ret;exact ⟨by rw [hr2];first|rfl|(simp;omega)|simp_all,HX.out.below⟩
             · subst k1 k2;have hr2:r=false:=by rw [← HR.out];simp [bareT,k3]
               have k3':¬ (inn:Int)=0:=by omega
               clear k3;go_enter Tryz.func45,Tryz.ntmps45;go_wp2_with fail;go_ret;exact ⟨by rw [hr2];first|rfl|(simp;omega)|simp_all,HX.out.below⟩
           · subst k1;have hr2:r=false:=by rw [← HR.out];simp [bareT,k2]
             have k2':¬ (gn:Int)=0:=by omega
             clear k2;go_enter Tryz.func45,Tryz.ntmps45;go_wp2_with fail;go_ret;exact ⟨by rw [hr2];first|rfl|(simp;omega)|simp_all,HX.out.below⟩
         · have hr2:r=false:=by rw [← HR.out];simp [bareT,k1]
           have k1':¬ (en:Int)=0:=by omega
           clear k1;go_enter Tryz.func45,Tryz.ntmps45;go_wp2_with fail;go_ret;exact ⟨by rw [hr2];first|rfl|(simp;omega)|simp_all,HX.out.below⟩
       · go_enter Tryz.func45,Tryz.ntmps45;go_wp2_with fail;go_ret;exact ⟨by rw [← HR.out];rfl,HX.out.below⟩
     · go_enter Tryz.func45,Tryz.ntmps45;go_wp2_with fail;go_ret;exact ⟨by rw [← HR.out];rfl,HX.out.below⟩
   · go_enter Tryz.func45,Tryz.ntmps45;go_wp2_with fail;go_ret;exact ⟨by rw [← HR.out];rfl,HX.out.below⟩
 · go_enter Tryz.func45,Tryz.ntmps45;go_wp2_with fail;go_ret;exact ⟨by rw [← HR.out];rfl,HX.out.below⟩
theorem w_rBare (h:Nat) (T:TT) (v:Value) (w:World) (hI:InT w h T v):Calls Tryz.prog 45 #[v] w fun e w'=>e= .returned (.bool T.bare)∧Below w.heap.size w w':=by
 cases h with
 | zero=>exact hI.elim
 | succ h=>
  obtain ⟨no,nc,xo,xc,ao,ac,oo,oc,rfl,_,⟨a5,a6,a7,a8⟩,_⟩:=hI;exact bare_v _ _ _ _ _ _ _ _ _ _ _ _ _ _ _ _ _ w a5 a6 a7 a8
def TT.never (T:TT):Bool:= !T.all&&T.bare
theorem never_v (a b c d f:Bool) (eo go io jo:Option Addr) (en ec gn gc inn ic jn jc:Nat) (w:World) (h1:en≤140737488355328) (h2:gn≤140737488355328) (h3:inn≤140737488355328) (h4:jn≤140737488355328):
 Calls Tryz.prog 50 #[.agg #[.bool a,.bool b,.bool c,.bool d,.slice eo en ec,.bool f,.slice go gn gc,.slice io inn ic,.slice jo jn jc]] w fun e w'=>e= .returned (.bool (!a&&bareT b c d f en gn inn jn))∧Below w.heap.size w w':=by
 have HC:=hQz (fun u=>bare_v a b c d f eo go io jo en ec gn gc inn ic jn jc u h1 h2 h3 h4);obtain ⟨r,hr⟩:∃ r,bareT b c d f en gn inn jn=r:=⟨_,rfl⟩;rw [hr] at HC ⊢;have HX:=hQz (tbx_new w (.bool a) (.bool b) (.bool c) (.bool d) (.slice eo en ec) (.bool f) (.slice go gn gc) (.slice io inn ic) (.slice jo jn jc));obtain ⟨W0,hW0⟩:∃ W0,w.alloc (.cells #[.bool a,.bool b,.bool c,.bool d,.slice eo en ec,.bool f,.slice go gn gc,.slice io inn ic,.slice jo jn jc] 27)=W0:=⟨_,rfl⟩;rw [hW0] at HX;obtain ⟨_,c0,c1,c2,c3,c4,c5,c6,c7,c8,_⟩:=HX.out;clear hr
 cases a
 · go_enter Tryz.func50,Tryz.ntmps50;go_wp2_with fail;refine (HC.out _).mono ?_;rintro e w1 ⟨rfl,hb1⟩;have HX1:=hQz (HX.out.keep hb1);clear hb1 c0 c1 c2 c3 c4 c5 c6 c7 c8 hW0;go_wp2_with fail;go_ret;exact ⟨by first|rfl|simp,HX1.out.below⟩
 · go_enter Tryz.func50,Tryz.ntmps50;go_wp2_with fail;go_ret;exact ⟨by first|rfl|simp,HX.out.below⟩
theorem w_rNever (h:Nat) (T:TT) (v:Value) (w:World) (hI:InT w h T v):Calls Tryz.prog 50 #[v] w fun e w'=>e= .returned (.bool T.never)∧Below w.heap.size w w':=by
 cases h with
 | zero=>exact hI.elim
 | succ h=>
  obtain ⟨no,nc,xo,xc,ao,ac,oo,oc,rfl,_,⟨a5,a6,a7,a8⟩,_⟩:=hI;exact never_v _ _ _ _ _ _ _ _ _ _ _ _ _ _ _ _ _ w a5 a6 a7 a8
def bndB (s:ByteArray):Bool:=s.size==0||Pl.formed s.data.toList
theorem w_rbound (s:ByteArray) (w:World) (hs:s.size≤140737488355328):Calls Tryz.prog 97 #[.string s] w fun e w'=>e= .returned (.bool (bndB s))∧w'=w:=by
 have HC:=hQz (fun u=>w_Number s u (by omega));by_cases h0:s=⟨#[]⟩
 · have hb:bndB s=true:=by rw [h0];rfl
   rw [hb];subst h0;go_enter Tryz.func97,Tryz.ntmps97;go_wp2_with fail;go_ret;exact ⟨by first|rfl|simp,rfl⟩
 · have hz:¬ s.size=0:=fun h=>h0 (by
    cases s with
    | mk d=>congr 1;exact Array.eq_empty_of_size_eq_zero h)
   have hb:bndB s=Pl.formed s.data.toList:=by simp [bndB,hz]
   rw [hb];obtain ⟨r,hr⟩:∃ r,Pl.formed s.data.toList=r:=⟨_,rfl⟩;rw [hr] at HC ⊢
   have hbe:¬ s.toList=[]:=fun h=>hz (by
    rw [Lib.toList_data] at h;have h2:=congrArg List.length h;rw [Array.length_toList] at h2;exact h2)
   clear hr hb;go_enter Tryz.func97,Tryz.ntmps97;go_wp2_with fail;refine (HC.out _).mono ?_;rintro e w1 ⟨rfl,rfl⟩;go_wp2_with fail;go_ret;exact ⟨by first|rfl|(simp;done)|simp [hbe],rfl⟩
end Go.Proofs.YtnokkmiaeacogaaGreat
