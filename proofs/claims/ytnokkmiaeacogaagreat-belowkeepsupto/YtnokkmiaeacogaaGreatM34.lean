import Derived.Test.YtnokkmiaeacogaaGreatM33
set_option linter.unusedVariables false
set_option linter.unusedSimpArgs false
namespace Go.Proofs.YtnokkmiaeacogaaGreat
open Go.RowKit Go.Shelf Go.Sort
attribute [local go_sem] Oper.semAt_some
set_option maxRecDepth 100000 in
set_option maxHeartbeats 25600000 in
theorem each_met (h:Nat) (g:TT × Bool→TT × Bool→Bool) (a b:OB) (ba oa bb ob:Nat) (ko:Option Addr) (kc:Nat) (fo:Option Addr) (fc:Nat) (mo:Option Addr) (mc:Nat) (lo:Option Addr) (lc:Nat) (eo:Option Addr) (ec:Nat) (no:Option Addr) (nc:Nat) (w:World)
 (hA:PtO w h a ba oa ko kc fo fc mo mc) (hB:PtO w h b bb ob lo lc eo ec no nc) (oA:OkO a) (oB:OkO b)
 (HC:Hid (∀ u x y b1 o1 b2 o2,Below w.heap.size w u→PtT u h x.1 b1 o1→PtT u h y.1 b2 o2→(x.1=a.rest∨x.1∈a.fields)→(y.1=b.rest∨y.1∈b.fields)→Calls Tryz.prog 162 #[.agg #[.pointer (some ⟨b1,o1,none⟩),.bool x.2],.agg #[.pointer (some ⟨b2,o2,none⟩),.bool y.2]] u fun e w'=>e= .returned (.bool (g x y))∧Below u.heap.size u w')):
 Calls Tryz.prog 153 #[.pointer (some ⟨ba,oa,none⟩),.pointer (some ⟨bb,ob,none⟩),.func (.func 162) #[] #[]] w fun e w'=>e= .returned (.bool (mgF g a.rest b.rest (a.names.length+b.names.length) (zipO a) (zipO b)))∧Below w.heap.size w w':=by
 have HA:=hQz hA;have HBB:=hQz hB;have HOA:=hQz oA;have HOB:=hQz oB;obtain ⟨M,hM⟩:∃ M,a.names.length=M:=⟨_,rfl⟩;obtain ⟨N,hN⟩:∃ N,b.names.length=N:=⟨_,rfl⟩;have HM:=hQz hM;have HN:=hQz hN;have hM2:M≤140737488355328:=by rw [← hM];exact hA.lens.1
 have hN2:N≤140737488355328:=by rw [← hN];exact hB.lens.1
 have hMc:M≤kc:=by rw [← hM];exact hA.caps.1
 have hNc:N≤lc:=by rw [← hN];exact hB.caps.1
 have HX:Hid (∀ u,Below w.heap.size w u→u.cell? ⟨ba,oa,none⟩=some (.slice ko M kc)∧u.cell? ⟨bb,ob,none⟩=some (.slice lo N lc)):=fun u hu=>⟨by have:=(hA.keep hu).c0;rw [hM] at this;exact this,by have:=(hB.keep hu).c0;rw [hN] at this;exact this⟩
 rw [hM,hN];obtain ⟨R,hR⟩:∃ R,mgF g a.rest b.rest (M+N) (zipO a) (zipO b)=R:=⟨_,rfl⟩;have HR:=hQz hR;rw [hR];clear hA hB oA oB hM hN hR;obtain ⟨x0,y0⟩:=HX.out w (Below.refl _ _);go_enter Tryz.func153,Tryz.ntmps153;go_wp2_with fail
 go_loopw [7,8] (fun i j wr=>∃ p q:Nat,p≤M∧q≤N∧i= .int .i64 (p:Int)∧j= .int .i64 (q:Int)∧Hid (Below w.heap.size w wr)∧Hid (mgF g a.rest b.rest (M-p+(N-q)) ((zipO a).drop p) ((zipO b).drop q)=R)) (fun i j _=>(M+N)-((intOf i).toNat+(intOf j).toNat))
 case atStart=>exact ⟨0,0,Nat.zero_le _,Nat.zero_le _,rfl,rfl,Below.refl _ _,HR.out⟩
 case round=>
  clear x0 y0 HR;obtain ⟨p,q,hp,hq,rfl,rfl,HB,HQ⟩:=hrel;obtain ⟨x0,y0⟩:=HX.out wr HB.out;by_cases hpM:p<M
  · have hpM1:(p:Int)<(M:Int):=by omega
    have hpM2:(p:Int)≤(M:Int):=by omega
    have hp0:(0:Int)≤(p:Int):=by omega
    have hkp:¬ kc=p:=by omega
    by_cases hqN:q<N
    · have hqN1:(q:Int)<(N:Int):=by omega
      have hqN2:(q:Int)≤(N:Int):=by omega
      have hq0:(0:Int)≤(q:Int):=by omega
      have hlq:¬ lc=q:=by omega
      have hza:=zip_at HOA.out (p:=p) (by rw [HM.out];exact hpM);have hzb:=zip_at HOB.out (p:=q) (by rw [HN.out];exact hqN);have hQ:=HQ.out;rw [hza,hzb,show M-p+(N-q)=(M-p+(N-q)-1)+1 from by omega,mgF] at hQ;have hda:a.names.drop p=a.names[p]'(by rw [HM.out];exact hpM)::a.names.drop (p+1):=List.drop_eq_getElem_cons (by rw [HM.out];exact hpM);have hdb:b.names.drop q=b.names[q]'(by rw [HN.out];exact hqN)::b.names.drop (q+1):=List.drop_eq_getElem_cons (by rw [HN.out];exact hqN);by_cases c1:(a.names[p]'(by rw [HM.out];exact hpM)).toList<(b.names[q]'(by rw [HN.out];exact hqN)).toList
      · rw [if_pos c1,← hzb,show M-p+(N-q)-1=M-(p+1)+(N-q) from by omega] at hQ;have HST:=hQz hQ;have HSD:Hid (ahd (a.names.drop p) (b.names.drop q)= -1):=by show _=_;rw [hda,hdb];exact cmpS_lt c1
        clear hza hzb hQ hda hdb c1 HQ;have hU1:=hQz (q03 ba oa);have hU2:=hQz (q03 bb ob);go_wp2_with fail;refine (hU1.out _).mono ?_;rintro e w1 ⟨rfl,hq1⟩;have HB1:=hQz (HB.out.trans (hq1.mono HB.out.size));clear hq1;go_wp2_with fail;refine (hU2.out _).mono ?_;rintro e w2 ⟨rfl,hq2⟩;have HB2:=hQz (HB1.out.trans (hq2.mono HB1.out.size));clear hq2 x0 y0;obtain ⟨XB,hXB⟩:∃ XB,w2.heap.size=XB:=⟨_,rfl⟩;obtain ⟨w3,hw3⟩:∃ w3,(w2.alloc (.cells #[.pointer (some ⟨ba,oa+3,none⟩),.bool false] 195)).alloc (.cells #[.pointer (some ⟨bb,ob+3,none⟩),.bool false] 195)=w3:=⟨_,rfl⟩;have hb3:Below w2.heap.size w2 w3:=by rw [← hw3];exact ((Below.refl _ w2).alloc (Nat.le_refl _) _).alloc (by simp) _
        have HB3:=hQz (HB2.out.trans (hb3.mono HB2.out.size));have hwX:w.heap.size≤XB:=by rw [← hXB];exact HB2.out.size
        have hX3:w3.heap[XB]? =some (.cells #[.pointer (some ⟨ba,oa+3,none⟩),.bool false] 195 (0,0)):=by rw [← hw3,← hXB];exact (Below.heap_alloc _ _ _ (by simp)).trans (World.alloc_heap_new w2 _)
        have hY3:w3.heap[XB+1]? =some (.cells #[.pointer (some ⟨bb,ob+3,none⟩),.bool false] 195 (0,0)):=by
         rw [← hw3,← hXB];have h:=World.alloc_heap_new (w2.alloc (.cells #[.pointer (some ⟨ba,oa+3,none⟩),.bool false] 195)) (.cells #[.pointer (some ⟨bb,ob+3,none⟩),.bool false] 195);rw [World.size_alloc] at h;exact h
        have HX3:=hQz hX3;have HY3:=hQz hY3;have HWq:=hQz hw3;have HBq:=hQz hXB;clear hw3 hXB hb3 hX3 hY3 hU1 hU2;go_upto_region 4 with fail
        try rw [HWq.out]
        try rw [HBq.out]
        clear HWq HBq;obtain ⟨x0,y0⟩:=HX.out w3 HB3.out;have Ax0:=fun d os=>cell_regrown x0 d os;have Ay0:=fun d os=>cell_regrown y0 d os;obtain ⟨kb,koff,rfl,hkb,hkr⟩:=HA.out.nm.row (by rw [HM.out];omega);clear hkr;obtain ⟨lb,loff,rfl,hlb,hlr⟩:=HBB.out.nm.row (by rw [HN.out];omega);clear hlr
        have HAH:Hid (∀ (d:Nat) (os:Array Obj),Calls Tryz.prog 166 #[.slice (some ⟨kb,koff+p,none⟩) (M-p) (kc-p),.slice (some ⟨lb,loff+q,none⟩) (N-q) (lc-q)] (grow (redrawn w3 d) os) fun e w'=>e= .returned (.int .i64 (-1))∧Below (grow (redrawn w3 d) os).heap.size (grow (redrawn w3 d) os) w'):=fun d os=>by
         have h:=q0k _ (M-p) (kc-p) _ (N-q) (lc-q) (a.names.drop p) (b.names.drop q) (grow (redrawn w3 d) os) (((HA.out.nm.keep HB3.out).keep (below_regrown w3 d os)).drop (by rw [HM.out];exact hpM)) (((HBB.out.nm.keep HB3.out).keep (below_regrown w3 d os)).drop (by rw [HN.out];exact hqN)) (by rw [List.length_drop,HM.out]) (by rw [List.length_drop,HN.out]) (by omega) (by omega);rw [show ahd _ _=(-1:Int) from HSD.out] at h;exact h
        refine wp_region_quiet_below (by kernel_rfl) (by kernel_rfl) ?_
        repeat (go_big_quiet_step (exact Calls.regrown_of (HAH.out _ _)))
        refine wpQuiet_nil ?_;intro w4 hw'
        have hbw9:Below w3.heap.size w3 w4:=by
         obtain ⟨⟨dq,osq⟩,rfl⟩:=hw';exact below_regrown w3 dq osq
        clear hw';have HB4:=hQz (HB3.out.trans (hbw9.mono HB3.out.size));have HX4:Hid (w4.heap[XB]? =_):=(hbw9.block _ (q00 HX3.out)).trans HX3.out;have HY4:Hid (w4.heap[XB+1]? =_):=(hbw9.block _ (q00 HY3.out)).trans HY3.out;clear hbw9 Ax0 Ay0 x0 y0 HAH;obtain ⟨fb,fbo,e5,hf5⟩:=HA.out.fd (by have:=HOA.out.fl;have:=HM.out;omega);obtain ⟨mb,mbo,e5m,hm5l,hm5⟩:=HA.out.ms.row (by have:=HOA.out.ml;have:=HM.out;omega);have z1:=(HA.out.keep HB4.out).c1;have z2:=(HA.out.keep HB4.out).c2;rw [e5] at z1;rw [e5m] at z2;have z3:=(HB4.out.cell (p:=⟨_,_,_⟩) hm5l).trans (hm5 p (by have:=HOA.out.ml;have:=HM.out;omega));have HNM5:=hQz (q0h ba oa p fb fbo _ _ mb mbo _ _ _ w4 (by have:=HOA.out.fl;have:=HM.out;omega) (by have:=HOA.out.ml;have:=HM.out;omega) HA.out.caps.2.1 HA.out.caps.2.2 (Nat.lt_of_lt_of_le HA.out.lt HB4.out.size) (Nat.lt_of_lt_of_le hm5l HB4.out.size) z1 z2 z3);have HPT5:=hQz (hf5 p (by have:=HOA.out.fl;have:=HM.out;omega));clear z1 z2 z3;go_wp2_with fail;refine HNM5.out.mono ?_;rintro e w5 ⟨rfl,hq5⟩;have HB5:=hQz (HB4.out.trans (hq5.mono HB4.out.size));have HX5:Hid (w5.heap[XB]? =_):=(hq5.block _ (q00 HX4.out)).trans HX4.out;have HY5:Hid (w5.heap[XB+1]? =_):=(hq5.block _ (q00 HY4.out)).trans HY4.out;clear hq5 HNM5;obtain ⟨w6,hw6⟩:∃ w6,(w5.setCell ⟨XB,0,none⟩ (.pointer (some ⟨fb,fbo+p*9,none⟩))).setCell ⟨XB,1,none⟩ (.bool (a.must[p]'(by have:=HOA.out.ml;have:=HM.out;omega)))=w6:=⟨_,rfl⟩;have HB6:Hid (Below w.heap.size w w6):=by show Below _ _ _;rw [← hw6];exact (HB5.out.setCell (p:=⟨XB,0,none⟩) (by show w.heap.size≤XB;omega) _).setCell (p:=⟨XB,1,none⟩) (by show w.heap.size≤XB;omega) _
        have HX6:Hid (w6.heap[XB]? =some (.cells #[.pointer (some ⟨fb,fbo+p*9,none⟩),.bool (a.must[p]'(by have:=HOA.out.ml;have:=HM.out;omega))] 195 (0,0))):=by show _=_;rw [← hw6];exact q06 HX5.out
        have HY6:Hid (w6.heap[XB+1]? =some (.cells #[.pointer (some ⟨bb,ob+3,none⟩),.bool false] 195 (0,0))):=by show _=_;rw [← hw6];exact (Below.heap_setCell _ _ _ _ (by show XB+1≠XB;omega)).trans ((Below.heap_setCell _ _ _ _ (by show XB+1≠XB;omega)).trans HY5.out)
        have u0:=cell_of_row _ _ 0 _ _ _ HX5.out;have u1:=cell_of_row _ _ 1 _ _ _ HX5.out;have v0:=q01 (j:=0) HX5.out;have v1:=q01 (j:=1) HX5.out;have HWq:=hQz hw6;clear hw6;go_upto_region 7 with fail
        try rw [HWq.out]
        clear HWq u0 u1 v0 v1;have s0:=cell_of_row _ _ 0 _ _ _ HX6.out;have s1:=cell_of_row _ _ 1 _ _ _ HX6.out;have s2:=cell_of_row _ _ 0 _ _ _ HY6.out;have s3:=cell_of_row _ _ 1 _ _ _ HY6.out;have HCL:=hQz (HC.out w6 (a.fields[p]'(by have:=HOA.out.fl;have:=HM.out;omega),a.must[p]'(by have:=HOA.out.ml;have:=HM.out;omega)) (b.rest,false) _ _ _ _ HB6.out (HPT5.out.keep HB6.out) (HBB.out.keep HB6.out).rest (.inr (List.getElem_mem _)) (.inl rfl));obtain ⟨G,hG⟩:∃ G,g (a.fields[p]'(by have:=HOA.out.fl;have:=HM.out;omega),a.must[p]'(by have:=HOA.out.ml;have:=HM.out;omega)) (b.rest,false)=G:=⟨_,rfl⟩;rw [hG] at HCL HST;clear hG
        cases G with
        | true=>
         go_wp2_with fail;refine HCL.out.mono ?_;rintro e w20 ⟨rfl,hq20⟩;have HB20:=hQz (HB6.out.trans (hq20.mono HB6.out.size));clear hq20 s0 s1 s2 s3;go_wp2_with fail;go_roundw
         case rel=>exact ⟨p+1,q,by omega,by omega,by first|rfl|go_num,by first|rfl|go_num,HB20,HST.out⟩
         case measure=>simp [intOf];omega
        | false=>
         go_wp2_with fail;refine HCL.out.mono ?_;rintro e w20 ⟨rfl,hq20⟩;have HB20:=hQz (HB6.out.trans (hq20.mono HB6.out.size));clear hq20 s0 s1 s2 s3;have HRF:Hid (false=R):=HST.out;go_wp2_with fail;go_ret;exact ⟨by rw [← HRF.out];rfl,HB20.out⟩
      · by_cases c2:(b.names[q]'(by rw [HN.out];exact hqN)).toList<(a.names[p]'(by rw [HM.out];exact hpM)).toList
        · rw [if_neg c1,if_pos c2,← hza,show M-p+(N-q)-1=M-p+(N-(q+1)) from by omega] at hQ;have HST:=hQz hQ;have HSD:Hid (ahd (a.names.drop p) (b.names.drop q)=1):=by show _=_;rw [hda,hdb];exact cmpS_gt c2
          clear hza hzb hQ hda hdb c1 c2 HQ;have hU1:=hQz (q03 ba oa);have hU2:=hQz (q03 bb ob);go_wp2_with fail;refine (hU1.out _).mono ?_;rintro e w1 ⟨rfl,hq1⟩;have HB1:=hQz (HB.out.trans (hq1.mono HB.out.size));clear hq1;go_wp2_with fail;refine (hU2.out _).mono ?_;rintro e w2 ⟨rfl,hq2⟩;have HB2:=hQz (HB1.out.trans (hq2.mono HB1.out.size));clear hq2 x0 y0;obtain ⟨XB,hXB⟩:∃ XB,w2.heap.size=XB:=⟨_,rfl⟩;obtain ⟨w3,hw3⟩:∃ w3,(w2.alloc (.cells #[.pointer (some ⟨ba,oa+3,none⟩),.bool false] 195)).alloc (.cells #[.pointer (some ⟨bb,ob+3,none⟩),.bool false] 195)=w3:=⟨_,rfl⟩;have hb3:Below w2.heap.size w2 w3:=by rw [← hw3];exact ((Below.refl _ w2).alloc (Nat.le_refl _) _).alloc (by simp) _
          have HB3:=hQz (HB2.out.trans (hb3.mono HB2.out.size));have hwX:w.heap.size≤XB:=by rw [← hXB];exact HB2.out.size
          have hX3:w3.heap[XB]? =some (.cells #[.pointer (some ⟨ba,oa+3,none⟩),.bool false] 195 (0,0)):=by rw [← hw3,← hXB];exact (Below.heap_alloc _ _ _ (by simp)).trans (World.alloc_heap_new w2 _)
          have hY3:w3.heap[XB+1]? =some (.cells #[.pointer (some ⟨bb,ob+3,none⟩),.bool false] 195 (0,0)):=by
           rw [← hw3,← hXB];have h:=World.alloc_heap_new (w2.alloc (.cells #[.pointer (some ⟨ba,oa+3,none⟩),.bool false] 195)) (.cells #[.pointer (some ⟨bb,ob+3,none⟩),.bool false] 195);rw [World.size_alloc] at h;exact h
          have HX3:=hQz hX3;have HY3:=hQz hY3;have HWq:=hQz hw3;have HBq:=hQz hXB;clear hw3 hXB hb3 hX3 hY3 hU1 hU2;go_upto_region 4 with fail
          try rw [HWq.out]
          try rw [HBq.out]
          clear HWq HBq;obtain ⟨x0,y0⟩:=HX.out w3 HB3.out;have Ax0:=fun d os=>cell_regrown x0 d os;have Ay0:=fun d os=>cell_regrown y0 d os;obtain ⟨kb,koff,rfl,hkb,hkr⟩:=HA.out.nm.row (by rw [HM.out];omega);clear hkr;obtain ⟨lb,loff,rfl,hlb,hlr⟩:=HBB.out.nm.row (by rw [HN.out];omega);clear hlr
          have HAH:Hid (∀ (d:Nat) (os:Array Obj),Calls Tryz.prog 166 #[.slice (some ⟨kb,koff+p,none⟩) (M-p) (kc-p),.slice (some ⟨lb,loff+q,none⟩) (N-q) (lc-q)] (grow (redrawn w3 d) os) fun e w'=>e= .returned (.int .i64 (1))∧Below (grow (redrawn w3 d) os).heap.size (grow (redrawn w3 d) os) w'):=fun d os=>by
           have h:=q0k _ (M-p) (kc-p) _ (N-q) (lc-q) (a.names.drop p) (b.names.drop q) (grow (redrawn w3 d) os) (((HA.out.nm.keep HB3.out).keep (below_regrown w3 d os)).drop (by rw [HM.out];exact hpM)) (((HBB.out.nm.keep HB3.out).keep (below_regrown w3 d os)).drop (by rw [HN.out];exact hqN)) (by rw [List.length_drop,HM.out]) (by rw [List.length_drop,HN.out]) (by omega) (by omega);rw [show ahd _ _=(1:Int) from HSD.out] at h;exact h
          refine wp_region_quiet_below (by kernel_rfl) (by kernel_rfl) ?_
          repeat (go_big_quiet_step (exact Calls.regrown_of (HAH.out _ _)))
          refine wpQuiet_nil ?_;intro w4 hw'
          have hbw9:Below w3.heap.size w3 w4:=by
           obtain ⟨⟨dq,osq⟩,rfl⟩:=hw';exact below_regrown w3 dq osq
          clear hw';have HB4:=hQz (HB3.out.trans (hbw9.mono HB3.out.size));have HX4:Hid (w4.heap[XB]? =_):=(hbw9.block _ (q00 HX3.out)).trans HX3.out;have HY4:Hid (w4.heap[XB+1]? =_):=(hbw9.block _ (q00 HY3.out)).trans HY3.out;clear hbw9 Ax0 Ay0 x0 y0 HAH;obtain ⟨eb,ebo,e5,hf5⟩:=HBB.out.fd (by have:=HOB.out.fl;have:=HN.out;omega);obtain ⟨nb,nbo,e5m,hm5l,hm5⟩:=HBB.out.ms.row (by have:=HOB.out.ml;have:=HN.out;omega);have z1:=(HBB.out.keep HB4.out).c1;have z2:=(HBB.out.keep HB4.out).c2;rw [e5] at z1;rw [e5m] at z2;have z3:=(HB4.out.cell (p:=⟨_,_,_⟩) hm5l).trans (hm5 q (by have:=HOB.out.ml;have:=HN.out;omega));have HNM5:=hQz (q0h bb ob q eb ebo _ _ nb nbo _ _ _ w4 (by have:=HOB.out.fl;have:=HN.out;omega) (by have:=HOB.out.ml;have:=HN.out;omega) HBB.out.caps.2.1 HBB.out.caps.2.2 (Nat.lt_of_lt_of_le HBB.out.lt HB4.out.size) (Nat.lt_of_lt_of_le hm5l HB4.out.size) z1 z2 z3);have HPT5:=hQz (hf5 q (by have:=HOB.out.fl;have:=HN.out;omega));clear z1 z2 z3;go_wp2_with fail;refine HNM5.out.mono ?_;rintro e w5 ⟨rfl,hq5⟩;have HB5:=hQz (HB4.out.trans (hq5.mono HB4.out.size));have HX5:Hid (w5.heap[XB]? =_):=(hq5.block _ (q00 HX4.out)).trans HX4.out;have HY5:Hid (w5.heap[XB+1]? =_):=(hq5.block _ (q00 HY4.out)).trans HY4.out;clear hq5 HNM5;obtain ⟨w6,hw6⟩:∃ w6,(w5.setCell ⟨XB+1,0,none⟩ (.pointer (some ⟨eb,ebo+q*9,none⟩))).setCell ⟨XB+1,1,none⟩ (.bool (b.must[q]'(by have:=HOB.out.ml;have:=HN.out;omega)))=w6:=⟨_,rfl⟩;have HB6:Hid (Below w.heap.size w w6):=by show Below _ _ _;rw [← hw6];exact (HB5.out.setCell (p:=⟨XB+1,0,none⟩) (by show w.heap.size≤XB+1;omega) _).setCell (p:=⟨XB+1,1,none⟩) (by show w.heap.size≤XB+1;omega) _
          have HX6:Hid (w6.heap[XB]? =some (.cells #[.pointer (some ⟨ba,oa+3,none⟩),.bool false] 195 (0,0))):=by show _=_;rw [← hw6];exact (Below.heap_setCell _ _ _ _ (by show XB≠XB+1;omega)).trans ((Below.heap_setCell _ _ _ _ (by show XB≠XB+1;omega)).trans HX5.out)
          have HY6:Hid (w6.heap[XB+1]? =some (.cells #[.pointer (some ⟨eb,ebo+q*9,none⟩),.bool (b.must[q]'(by have:=HOB.out.ml;have:=HN.out;omega))] 195 (0,0))):=by show _=_;rw [← hw6];exact q06 HY5.out
          have u0:=cell_of_row _ _ 0 _ _ _ HY5.out;have u1:=cell_of_row _ _ 1 _ _ _ HY5.out;have v0:=q01 (j:=0) HY5.out;have v1:=q01 (j:=1) HY5.out;have HWq:=hQz hw6;clear hw6;go_upto_region 10 with fail
          try rw [HWq.out]
          clear HWq u0 u1 v0 v1;have s0:=cell_of_row _ _ 0 _ _ _ HX6.out;have s1:=cell_of_row _ _ 1 _ _ _ HX6.out;have s2:=cell_of_row _ _ 0 _ _ _ HY6.out;have s3:=cell_of_row _ _ 1 _ _ _ HY6.out;have HCL:=hQz (HC.out w6 (a.rest,false) (b.fields[q]'(by have:=HOB.out.fl;have:=HN.out;omega),b.must[q]'(by have:=HOB.out.ml;have:=HN.out;omega)) _ _ _ _ HB6.out (HA.out.keep HB6.out).rest (HPT5.out.keep HB6.out) (.inl rfl) (.inr (List.getElem_mem _)));obtain ⟨G,hG⟩:∃ G,g (a.rest,false) (b.fields[q]'(by have:=HOB.out.fl;have:=HN.out;omega),b.must[q]'(by have:=HOB.out.ml;have:=HN.out;omega))=G:=⟨_,rfl⟩;rw [hG] at HCL HST;clear hG
          cases G with
          | true=>
           go_wp2_with fail;refine HCL.out.mono ?_;rintro e w20 ⟨rfl,hq20⟩;have HB20:=hQz (HB6.out.trans (hq20.mono HB6.out.size));clear hq20 s0 s1 s2 s3;go_wp2_with fail;go_roundw
           case rel=>exact ⟨p,q+1,by omega,by omega,by first|rfl|go_num,by first|rfl|go_num,HB20,HST.out⟩
           case measure=>simp [intOf];omega
          | false=>
           go_wp2_with fail;refine HCL.out.mono ?_;rintro e w20 ⟨rfl,hq20⟩;have HB20:=hQz (HB6.out.trans (hq20.mono HB6.out.size));clear hq20 s0 s1 s2 s3;have HRF:Hid (false=R):=HST.out;go_wp2_with fail;go_ret;exact ⟨by rw [← HRF.out];rfl,HB20.out⟩
        · rw [if_neg c1,if_neg c2,mg_less _ _ _ (show M-(p+1)+(N-(q+1))≤M-p+(N-q)-1 from by omega) (zip_left HOA.out HM.out) (zip_left HOB.out HN.out)] at hQ;have HST:=hQz hQ
          have HSD:Hid (ahd (a.names.drop p) (b.names.drop q)=0):=by
           show _=_;rw [hda,hdb];have e:=list_tri c1 c2;show Pl.cmpS _ _=0;rw [e];exact cmpS_eq
          clear hza hzb hQ hda hdb c1 c2 HQ;have hU1:=hQz (q03 ba oa);have hU2:=hQz (q03 bb ob);go_wp2_with fail;refine (hU1.out _).mono ?_;rintro e w1 ⟨rfl,hq1⟩;have HB1:=hQz (HB.out.trans (hq1.mono HB.out.size));clear hq1;go_wp2_with fail;refine (hU2.out _).mono ?_;rintro e w2 ⟨rfl,hq2⟩;have HB2:=hQz (HB1.out.trans (hq2.mono HB1.out.size));clear hq2 x0 y0;obtain ⟨XB,hXB⟩:∃ XB,w2.heap.size=XB:=⟨_,rfl⟩;obtain ⟨w3,hw3⟩:∃ w3,(w2.alloc (.cells #[.pointer (some ⟨ba,oa+3,none⟩),.bool false] 195)).alloc (.cells #[.pointer (some ⟨bb,ob+3,none⟩),.bool false] 195)=w3:=⟨_,rfl⟩;have hb3:Below w2.heap.size w2 w3:=by rw [← hw3];exact ((Below.refl _ w2).alloc (Nat.le_refl _) _).alloc (by simp) _
          have HB3:=hQz (HB2.out.trans (hb3.mono HB2.out.size));have hwX:w.heap.size≤XB:=by rw [← hXB];exact HB2.out.size
          have hX3:w3.heap[XB]? =some (.cells #[.pointer (some ⟨ba,oa+3,none⟩),.bool false] 195 (0,0)):=by rw [← hw3,← hXB];exact (Below.heap_alloc _ _ _ (by simp)).trans (World.alloc_heap_new w2 _)
          have hY3:w3.heap[XB+1]? =some (.cells #[.pointer (some ⟨bb,ob+3,none⟩),.bool false] 195 (0,0)):=by
           rw [← hw3,← hXB];have h:=World.alloc_heap_new (w2.alloc (.cells #[.pointer (some ⟨ba,oa+3,none⟩),.bool false] 195)) (.cells #[.pointer (some ⟨bb,ob+3,none⟩),.bool false] 195);rw [World.size_alloc] at h;exact h
          have HX3:=hQz hX3;have HY3:=hQz hY3;have HWq:=hQz hw3;have HBq:=hQz hXB;clear hw3 hXB hb3 hX3 hY3 hU1 hU2;go_upto_region 4 with fail
          try rw [HWq.out]
          try rw [HBq.out]
          clear HWq HBq;obtain ⟨x0,y0⟩:=HX.out w3 HB3.out;have Ax0:=fun d os=>cell_regrown x0 d os;have Ay0:=fun d os=>cell_regrown y0 d os;obtain ⟨kb,koff,rfl,hkb,hkr⟩:=HA.out.nm.row (by rw [HM.out];omega);clear hkr;obtain ⟨lb,loff,rfl,hlb,hlr⟩:=HBB.out.nm.row (by rw [HN.out];omega);clear hlr
          have HAH:Hid (∀ (d:Nat) (os:Array Obj),Calls Tryz.prog 166 #[.slice (some ⟨kb,koff+p,none⟩) (M-p) (kc-p),.slice (some ⟨lb,loff+q,none⟩) (N-q) (lc-q)] (grow (redrawn w3 d) os) fun e w'=>e= .returned (.int .i64 (0))∧Below (grow (redrawn w3 d) os).heap.size (grow (redrawn w3 d) os) w'):=fun d os=>by
           have h:=q0k _ (M-p) (kc-p) _ (N-q) (lc-q) (a.names.drop p) (b.names.drop q) (grow (redrawn w3 d) os) (((HA.out.nm.keep HB3.out).keep (below_regrown w3 d os)).drop (by rw [HM.out];exact hpM)) (((HBB.out.nm.keep HB3.out).keep (below_regrown w3 d os)).drop (by rw [HN.out];exact hqN)) (by rw [List.length_drop,HM.out]) (by rw [List.length_drop,HN.out]) (by omega) (by omega);rw [show ahd _ _=(0:Int) from HSD.out] at h;exact h
          refine wp_region_quiet_below (by kernel_rfl) (by kernel_rfl) ?_
          repeat (go_big_quiet_step (exact Calls.regrown_of (HAH.out _ _)))
          refine wpQuiet_nil ?_;intro w4 hw'
          have hbw9:Below w3.heap.size w3 w4:=by
           obtain ⟨⟨dq,osq⟩,rfl⟩:=hw';exact below_regrown w3 dq osq
          clear hw';have HB4:=hQz (HB3.out.trans (hbw9.mono HB3.out.size));have HX4:Hid (w4.heap[XB]? =_):=(hbw9.block _ (q00 HX3.out)).trans HX3.out;have HY4:Hid (w4.heap[XB+1]? =_):=(hbw9.block _ (q00 HY3.out)).trans HY3.out;clear hbw9 Ax0 Ay0 x0 y0 HAH;obtain ⟨fb,fbo,e5,hf5⟩:=HA.out.fd (by have:=HOA.out.fl;have:=HM.out;omega);obtain ⟨mb,mbo,e5m,hm5l,hm5⟩:=HA.out.ms.row (by have:=HOA.out.ml;have:=HM.out;omega);have z1:=(HA.out.keep HB4.out).c1;have z2:=(HA.out.keep HB4.out).c2;rw [e5] at z1;rw [e5m] at z2;have z3:=(HB4.out.cell (p:=⟨_,_,_⟩) hm5l).trans (hm5 p (by have:=HOA.out.ml;have:=HM.out;omega));have HNM5:=hQz (q0h ba oa p fb fbo _ _ mb mbo _ _ _ w4 (by have:=HOA.out.fl;have:=HM.out;omega) (by have:=HOA.out.ml;have:=HM.out;omega) HA.out.caps.2.1 HA.out.caps.2.2 (Nat.lt_of_lt_of_le HA.out.lt HB4.out.size) (Nat.lt_of_lt_of_le hm5l HB4.out.size) z1 z2 z3);have HPT5:=hQz (hf5 p (by have:=HOA.out.fl;have:=HM.out;omega));clear z1 z2 z3;go_wp2_with fail;refine HNM5.out.mono ?_;rintro e w5 ⟨rfl,hq5⟩;have HB5:=hQz (HB4.out.trans (hq5.mono HB4.out.size));have HX5:Hid (w5.heap[XB]? =_):=(hq5.block _ (q00 HX4.out)).trans HX4.out;have HY5:Hid (w5.heap[XB+1]? =_):=(hq5.block _ (q00 HY4.out)).trans HY4.out;clear hq5 HNM5;obtain ⟨w6,hw6⟩:∃ w6,(w5.setCell ⟨XB,0,none⟩ (.pointer (some ⟨fb,fbo+p*9,none⟩))).setCell ⟨XB,1,none⟩ (.bool (a.must[p]'(by have:=HOA.out.ml;have:=HM.out;omega)))=w6:=⟨_,rfl⟩;have HB6:Hid (Below w.heap.size w w6):=by show Below _ _ _;rw [← hw6];exact (HB5.out.setCell (p:=⟨XB,0,none⟩) (by show w.heap.size≤XB;omega) _).setCell (p:=⟨XB,1,none⟩) (by show w.heap.size≤XB;omega) _
          have HX6:Hid (w6.heap[XB]? =some (.cells #[.pointer (some ⟨fb,fbo+p*9,none⟩),.bool (a.must[p]'(by have:=HOA.out.ml;have:=HM.out;omega))] 195 (0,0))):=by show _=_;rw [← hw6];exact q06 HX5.out
          have HY6:Hid (w6.heap[XB+1]? =some (.cells #[.pointer (some ⟨bb,ob+3,none⟩),.bool false] 195 (0,0))):=by show _=_;rw [← hw6];exact (Below.heap_setCell _ _ _ _ (by show XB+1≠XB;omega)).trans ((Below.heap_setCell _ _ _ _ (by show XB+1≠XB;omega)).trans HY5.out)
          have u0:=cell_of_row _ _ 0 _ _ _ HX5.out;have u1:=cell_of_row _ _ 1 _ _ _ HX5.out;have v0:=q01 (j:=0) HX5.out;have v1:=q01 (j:=1) HX5.out;have HWq:=hQz hw6;clear hw6;go_upto_region 7 with fail
          try rw [HWq.out]
          clear HWq u0 u1 v0 v1;obtain ⟨eb,ebo,e7,hf7⟩:=HBB.out.fd (by have:=HOB.out.fl;have:=HN.out;omega);obtain ⟨nb,nbo,e7m,hm7l,hm7⟩:=HBB.out.ms.row (by have:=HOB.out.ml;have:=HN.out;omega);have z1:=(HBB.out.keep HB6.out).c1;have z2:=(HBB.out.keep HB6.out).c2;rw [e7] at z1;rw [e7m] at z2;have z3:=(HB6.out.cell (p:=⟨_,_,_⟩) hm7l).trans (hm7 q (by have:=HOB.out.ml;have:=HN.out;omega));have HNM7:=hQz (q0h bb ob q eb ebo _ _ nb nbo _ _ _ w6 (by have:=HOB.out.fl;have:=HN.out;omega) (by have:=HOB.out.ml;have:=HN.out;omega) HBB.out.caps.2.1 HBB.out.caps.2.2 (Nat.lt_of_lt_of_le HBB.out.lt HB6.out.size) (Nat.lt_of_lt_of_le hm7l HB6.out.size) z1 z2 z3);have HPT7:=hQz (hf7 q (by have:=HOB.out.fl;have:=HN.out;omega));clear z1 z2 z3;go_wp2_with fail;refine HNM7.out.mono ?_;rintro e w7 ⟨rfl,hq7⟩;have HB7:=hQz (HB6.out.trans (hq7.mono HB6.out.size));have HX7:Hid (w7.heap[XB]? =_):=(hq7.block _ (q00 HX6.out)).trans HX6.out;have HY7:Hid (w7.heap[XB+1]? =_):=(hq7.block _ (q00 HY6.out)).trans HY6.out;clear hq7 HNM7;obtain ⟨w8,hw8⟩:∃ w8,(w7.setCell ⟨XB+1,0,none⟩ (.pointer (some ⟨eb,ebo+q*9,none⟩))).setCell ⟨XB+1,1,none⟩ (.bool (b.must[q]'(by have:=HOB.out.ml;have:=HN.out;omega)))=w8:=⟨_,rfl⟩;have HB8:Hid (Below w.heap.size w w8):=by show Below _ _ _;rw [← hw8];exact (HB7.out.setCell (p:=⟨XB+1,0,none⟩) (by show w.heap.size≤XB+1;omega) _).setCell (p:=⟨XB+1,1,none⟩) (by show w.heap.size≤XB+1;omega) _
          have HX8:Hid (w8.heap[XB]? =some (.cells #[.pointer (some ⟨fb,fbo+p*9,none⟩),.bool (a.must[p]'(by have:=HOA.out.ml;have:=HM.out;omega))] 195 (0,0))):=by show _=_;rw [← hw8];exact (Below.heap_setCell _ _ _ _ (by show XB≠XB+1;omega)).trans ((Below.heap_setCell _ _ _ _ (by show XB≠XB+1;omega)).trans HX7.out)
          have HY8:Hid (w8.heap[XB+1]? =some (.cells #[.pointer (some ⟨eb,ebo+q*9,none⟩),.bool (b.must[q]'(by have:=HOB.out.ml;have:=HN.out;omega))] 195 (0,0))):=by show _=_;rw [← hw8];exact q06 HY7.out
          have u0:=cell_of_row _ _ 0 _ _ _ HY7.out;have u1:=cell_of_row _ _ 1 _ _ _ HY7.out;have v0:=q01 (j:=0) HY7.out;have v1:=q01 (j:=1) HY7.out;have HWq:=hQz hw8;clear hw8;go_upto_region 10 with fail
          try rw [HWq.out]
          clear HWq u0 u1 v0 v1;have s0:=cell_of_row _ _ 0 _ _ _ HX8.out;have s1:=cell_of_row _ _ 1 _ _ _ HX8.out;have s2:=cell_of_row _ _ 0 _ _ _ HY8.out;have s3:=cell_of_row _ _ 1 _ _ _ HY8.out;have HCL:=hQz (HC.out w8 (a.fields[p]'(by have:=HOA.out.fl;have:=HM.out;omega),a.must[p]'(by have:=HOA.out.ml;have:=HM.out;omega)) (b.fields[q]'(by have:=HOB.out.fl;have:=HN.out;omega),b.must[q]'(by have:=HOB.out.ml;have:=HN.out;omega)) _ _ _ _ HB8.out (HPT5.out.keep HB8.out) (HPT7.out.keep HB8.out) (.inr (List.getElem_mem _)) (.inr (List.getElem_mem _)));obtain ⟨G,hG⟩:∃ G,g (a.fields[p]'(by have:=HOA.out.fl;have:=HM.out;omega),a.must[p]'(by have:=HOA.out.ml;have:=HM.out;omega)) (b.fields[q]'(by have:=HOB.out.fl;have:=HN.out;omega),b.must[q]'(by have:=HOB.out.ml;have:=HN.out;omega))=G:=⟨_,rfl⟩;rw [hG] at HCL HST;clear hG
          cases G with
          | true=>
           go_wp2_with fail;refine HCL.out.mono ?_;rintro e w20 ⟨rfl,hq20⟩;have HB20:=hQz (HB8.out.trans (hq20.mono HB8.out.size));clear hq20 s0 s1 s2 s3;go_wp2_with fail;go_roundw
           case rel=>exact ⟨p+1,q+1,by omega,by omega,by first|rfl|go_num,by first|rfl|go_num,HB20,HST.out⟩
           case measure=>simp [intOf];omega
          | false=>
           go_wp2_with fail;refine HCL.out.mono ?_;rintro e w20 ⟨rfl,hq20⟩;have HB20:=hQz (HB8.out.trans (hq20.mono HB8.out.size));clear hq20 s0 s1 s2 s3;have HRF:Hid (false=R):=HST.out;go_wp2_with fail;go_ret;exact ⟨by rw [← HRF.out];rfl,HB20.out⟩
    · obtain rfl:q=N:=by omega
      have hqN1:¬ (q:Int)<(q:Int):=by omega
      have hq0:(0:Int)≤(q:Int):=by omega
      have hqN2:(q:Int)≤(q:Int):=by omega
      have hza:=zip_at HOA.out (p:=p) (by rw [HM.out];exact hpM);have hze:(zipO b).drop q=[]:=by have:=q0J HOB.out;rw [HN.out] at this;exact this
      have hQ:=HQ.out;rw [hza,hze,show M-p+(q-q)=(M-p-1)+1 from by omega,mgF,← hze,show M-p-1=M-(p+1)+(q-q) from by omega] at hQ;have HST:=hQz hQ;have hda:a.names.drop p=a.names[p]'(by rw [HM.out];exact hpM)::a.names.drop (p+1):=List.drop_eq_getElem_cons (by rw [HM.out];exact hpM);have HSD:Hid (ahd (a.names.drop p) []= -1):=by show _=_;rw [hda];rfl
      clear hza hze hQ hda HQ hqN;by_cases hlq:lc=q
      · obtain rfl:q=lc:=hlq.symm;have hU1:=hQz (q03 ba oa);have hU2:=hQz (q03 bb ob);go_wp2_with fail;refine (hU1.out _).mono ?_;rintro e w1 ⟨rfl,hq1⟩;have HB1:=hQz (HB.out.trans (hq1.mono HB.out.size));clear hq1;go_wp2_with fail;refine (hU2.out _).mono ?_;rintro e w2 ⟨rfl,hq2⟩;have HB2:=hQz (HB1.out.trans (hq2.mono HB1.out.size));clear hq2 x0 y0;obtain ⟨XB,hXB⟩:∃ XB,w2.heap.size=XB:=⟨_,rfl⟩;obtain ⟨w3,hw3⟩:∃ w3,(w2.alloc (.cells #[.pointer (some ⟨ba,oa+3,none⟩),.bool false] 195)).alloc (.cells #[.pointer (some ⟨bb,ob+3,none⟩),.bool false] 195)=w3:=⟨_,rfl⟩;have hb3:Below w2.heap.size w2 w3:=by rw [← hw3];exact ((Below.refl _ w2).alloc (Nat.le_refl _) _).alloc (by simp) _
        have HB3:=hQz (HB2.out.trans (hb3.mono HB2.out.size));have hwX:w.heap.size≤XB:=by rw [← hXB];exact HB2.out.size
        have hX3:w3.heap[XB]? =some (.cells #[.pointer (some ⟨ba,oa+3,none⟩),.bool false] 195 (0,0)):=by rw [← hw3,← hXB];exact (Below.heap_alloc _ _ _ (by simp)).trans (World.alloc_heap_new w2 _)
        have hY3:w3.heap[XB+1]? =some (.cells #[.pointer (some ⟨bb,ob+3,none⟩),.bool false] 195 (0,0)):=by
         rw [← hw3,← hXB];have h:=World.alloc_heap_new (w2.alloc (.cells #[.pointer (some ⟨ba,oa+3,none⟩),.bool false] 195)) (.cells #[.pointer (some ⟨bb,ob+3,none⟩),.bool false] 195);rw [World.size_alloc] at h;exact h
        have HX3:=hQz hX3;have HY3:=hQz hY3;have HWq:=hQz hw3;have HBq:=hQz hXB;clear hw3 hXB hb3 hX3 hY3 hU1 hU2;go_upto_region 4 with fail
        try rw [HWq.out]
        try rw [HBq.out]
        clear HWq HBq;obtain ⟨x0,y0⟩:=HX.out w3 HB3.out;have Ax0:=fun d os=>cell_regrown x0 d os;have Ay0:=fun d os=>cell_regrown y0 d os;obtain ⟨kb,koff,rfl,hkb,hkr⟩:=HA.out.nm.row (by rw [HM.out];omega);clear hkr
        have HAH:Hid (∀ (X:Option Addr) (Y:Nat) (d:Nat) (os:Array Obj),Calls Tryz.prog 166 #[.slice (some ⟨kb,koff+p,none⟩) (M-p) (kc-p),.slice X 0 Y] (grow (redrawn w3 d) os) fun e w'=>e= .returned (.int .i64 (-1))∧Below (grow (redrawn w3 d) os).heap.size (grow (redrawn w3 d) os) w'):=fun X Y d os=>by
         have h:=q0k _ (M-p) (kc-p) X 0 Y (a.names.drop p) [] (grow (redrawn w3 d) os) (((HA.out.nm.keep HB3.out).keep (below_regrown w3 d os)).drop (by rw [HM.out];exact hpM)) (⟨fun h0=>absurd h0 (Nat.lt_irrefl 0)⟩:KIn _ X []) (by rw [List.length_drop,HM.out]) rfl (by omega) (by omega);rw [show ahd _ _=(-1:Int) from HSD.out] at h;exact h
        refine wp_region_quiet_below (by kernel_rfl) (by kernel_rfl) ?_
        repeat (go_big_quiet_step (exact Calls.regrown_of (HAH.out _ _ _ _)))
        refine wpQuiet_nil ?_;intro w4 hw'
        have hbw9:Below w3.heap.size w3 w4:=by
         obtain ⟨⟨dq,osq⟩,rfl⟩:=hw';exact below_regrown w3 dq osq
        clear hw';have HB4:=hQz (HB3.out.trans (hbw9.mono HB3.out.size));have HX4:Hid (w4.heap[XB]? =_):=(hbw9.block _ (q00 HX3.out)).trans HX3.out;have HY4:Hid (w4.heap[XB+1]? =_):=(hbw9.block _ (q00 HY3.out)).trans HY3.out;clear hbw9 Ax0 Ay0 x0 y0 HAH;obtain ⟨fb,fbo,e5,hf5⟩:=HA.out.fd (by have:=HOA.out.fl;have:=HM.out;omega);obtain ⟨mb,mbo,e5m,hm5l,hm5⟩:=HA.out.ms.row (by have:=HOA.out.ml;have:=HM.out;omega);have z1:=(HA.out.keep HB4.out).c1;have z2:=(HA.out.keep HB4.out).c2;rw [e5] at z1;rw [e5m] at z2;have z3:=(HB4.out.cell (p:=⟨_,_,_⟩) hm5l).trans (hm5 p (by have:=HOA.out.ml;have:=HM.out;omega));have HNM5:=hQz (q0h ba oa p fb fbo _ _ mb mbo _ _ _ w4 (by have:=HOA.out.fl;have:=HM.out;omega) (by have:=HOA.out.ml;have:=HM.out;omega) HA.out.caps.2.1 HA.out.caps.2.2 (Nat.lt_of_lt_of_le HA.out.lt HB4.out.size) (Nat.lt_of_lt_of_le hm5l HB4.out.size) z1 z2 z3);have HPT5:=hQz (hf5 p (by have:=HOA.out.fl;have:=HM.out;omega));clear z1 z2 z3;go_wp2_with fail;refine HNM5.out.mono ?_;rintro e w5 ⟨rfl,hq5⟩;have HB5:=hQz (HB4.out.trans (hq5.mono HB4.out.size));have HX5:Hid (w5.heap[XB]? =_):=(hq5.block _ (q00 HX4.out)).trans HX4.out;have HY5:Hid (w5.heap[XB+1]? =_):=(hq5.block _ (q00 HY4.out)).trans HY4.out;clear hq5 HNM5;obtain ⟨w6,hw6⟩:∃ w6,(w5.setCell ⟨XB,0,none⟩ (.pointer (some ⟨fb,fbo+p*9,none⟩))).setCell ⟨XB,1,none⟩ (.bool (a.must[p]'(by have:=HOA.out.ml;have:=HM.out;omega)))=w6:=⟨_,rfl⟩;have HB6:Hid (Below w.heap.size w w6):=by show Below _ _ _;rw [← hw6];exact (HB5.out.setCell (p:=⟨XB,0,none⟩) (by show w.heap.size≤XB;omega) _).setCell (p:=⟨XB,1,none⟩) (by show w.heap.size≤XB;omega) _
        have HX6:Hid (w6.heap[XB]? =some (.cells #[.pointer (some ⟨fb,fbo+p*9,none⟩),.bool (a.must[p]'(by have:=HOA.out.ml;have:=HM.out;omega))] 195 (0,0))):=by show _=_;rw [← hw6];exact q06 HX5.out
        have HY6:Hid (w6.heap[XB+1]? =some (.cells #[.pointer (some ⟨bb,ob+3,none⟩),.bool false] 195 (0,0))):=by show _=_;rw [← hw6];exact (Below.heap_setCell _ _ _ _ (by show XB+1≠XB;omega)).trans ((Below.heap_setCell _ _ _ _ (by show XB+1≠XB;omega)).trans HY5.out)
        have u0:=cell_of_row _ _ 0 _ _ _ HX5.out;have u1:=cell_of_row _ _ 1 _ _ _ HX5.out;have v0:=q01 (j:=0) HX5.out;have v1:=q01 (j:=1) HX5.out;have HWq:=hQz hw6;clear hw6;go_upto_region 7 with fail
        try rw [HWq.out]
        clear HWq u0 u1 v0 v1;have s0:=cell_of_row _ _ 0 _ _ _ HX6.out;have s1:=cell_of_row _ _ 1 _ _ _ HX6.out;have s2:=cell_of_row _ _ 0 _ _ _ HY6.out;have s3:=cell_of_row _ _ 1 _ _ _ HY6.out;have HCL:=hQz (HC.out w6 (a.fields[p]'(by have:=HOA.out.fl;have:=HM.out;omega),a.must[p]'(by have:=HOA.out.ml;have:=HM.out;omega)) (b.rest,false) _ _ _ _ HB6.out (HPT5.out.keep HB6.out) (HBB.out.keep HB6.out).rest (.inr (List.getElem_mem _)) (.inl rfl));obtain ⟨G,hG⟩:∃ G,g (a.fields[p]'(by have:=HOA.out.fl;have:=HM.out;omega),a.must[p]'(by have:=HOA.out.ml;have:=HM.out;omega)) (b.rest,false)=G:=⟨_,rfl⟩;rw [hG] at HCL HST;clear hG
        cases G with
        | true=>
         go_wp2_with fail;refine HCL.out.mono ?_;rintro e w20 ⟨rfl,hq20⟩;have HB20:=hQz (HB6.out.trans (hq20.mono HB6.out.size));clear hq20 s0 s1 s2 s3;go_wp2_with fail;go_roundw
         case rel=>exact ⟨p+1,q,by omega,by omega,by first|rfl|go_num,by first|rfl|go_num,HB20,HST.out⟩
         case measure=>simp [intOf];omega
        | false=>
         go_wp2_with fail;refine HCL.out.mono ?_;rintro e w20 ⟨rfl,hq20⟩;have HB20:=hQz (HB6.out.trans (hq20.mono HB6.out.size));clear hq20 s0 s1 s2 s3;have HRF:Hid (false=R):=HST.out;go_wp2_with fail;go_ret;exact ⟨by rw [← HRF.out];rfl,HB20.out⟩
      · have hU1:=hQz (q03 ba oa);have hU2:=hQz (q03 bb ob);go_wp2_with fail;refine (hU1.out _).mono ?_;rintro e w1 ⟨rfl,hq1⟩;have HB1:=hQz (HB.out.trans (hq1.mono HB.out.size));clear hq1;go_wp2_with fail;refine (hU2.out _).mono ?_;rintro e w2 ⟨rfl,hq2⟩;have HB2:=hQz (HB1.out.trans (hq2.mono HB1.out.size));clear hq2 x0 y0;obtain ⟨XB,hXB⟩:∃ XB,w2.heap.size=XB:=⟨_,rfl⟩;obtain ⟨w3,hw3⟩:∃ w3,(w2.alloc (.cells #[.pointer (some ⟨ba,oa+3,none⟩),.bool false] 195)).alloc (.cells #[.pointer (some ⟨bb,ob+3,none⟩),.bool false] 195)=w3:=⟨_,rfl⟩;have hb3:Below w2.heap.size w2 w3:=by rw [← hw3];exact ((Below.refl _ w2).alloc (Nat.le_refl _) _).alloc (by simp) _
        have HB3:=hQz (HB2.out.trans (hb3.mono HB2.out.size));have hwX:w.heap.size≤XB:=by rw [← hXB];exact HB2.out.size
        have hX3:w3.heap[XB]? =some (.cells #[.pointer (some ⟨ba,oa+3,none⟩),.bool false] 195 (0,0)):=by rw [← hw3,← hXB];exact (Below.heap_alloc _ _ _ (by simp)).trans (World.alloc_heap_new w2 _)
        have hY3:w3.heap[XB+1]? =some (.cells #[.pointer (some ⟨bb,ob+3,none⟩),.bool false] 195 (0,0)):=by
         rw [← hw3,← hXB];have h:=World.alloc_heap_new (w2.alloc (.cells #[.pointer (some ⟨ba,oa+3,none⟩),.bool false] 195)) (.cells #[.pointer (some ⟨bb,ob+3,none⟩),.bool false] 195);rw [World.size_alloc] at h;exact h
        have HX3:=hQz hX3;have HY3:=hQz hY3;have HWq:=hQz hw3;have HBq:=hQz hXB;clear hw3 hXB hb3 hX3 hY3 hU1 hU2;go_upto_region 4 with fail
        try rw [HWq.out]
        try rw [HBq.out]
        clear HWq HBq;obtain ⟨x0,y0⟩:=HX.out w3 HB3.out;have Ax0:=fun d os=>cell_regrown x0 d os;have Ay0:=fun d os=>cell_regrown y0 d os;obtain ⟨kb,koff,rfl,hkb,hkr⟩:=HA.out.nm.row (by rw [HM.out];omega);clear hkr
        have HAH:Hid (∀ (X:Option Addr) (Y:Nat) (d:Nat) (os:Array Obj),Calls Tryz.prog 166 #[.slice (some ⟨kb,koff+p,none⟩) (M-p) (kc-p),.slice X 0 Y] (grow (redrawn w3 d) os) fun e w'=>e= .returned (.int .i64 (-1))∧Below (grow (redrawn w3 d) os).heap.size (grow (redrawn w3 d) os) w'):=fun X Y d os=>by
         have h:=q0k _ (M-p) (kc-p) X 0 Y (a.names.drop p) [] (grow (redrawn w3 d) os) (((HA.out.nm.keep HB3.out).keep (below_regrown w3 d os)).drop (by rw [HM.out];exact hpM)) (⟨fun h0=>absurd h0 (Nat.lt_irrefl 0)⟩:KIn _ X []) (by rw [List.length_drop,HM.out]) rfl (by omega) (by omega);rw [show ahd _ _=(-1:Int) from HSD.out] at h;exact h
        refine wp_region_quiet_below (by kernel_rfl) (by kernel_rfl) ?_
        repeat (go_big_quiet_step (exact Calls.regrown_of (HAH.out _ _ _ _)))
        refine wpQuiet_nil ?_;intro w4 hw'
        have hbw9:Below w3.heap.size w3 w4:=by
         obtain ⟨⟨dq,osq⟩,rfl⟩:=hw';exact below_regrown w3 dq osq
        clear hw';have HB4:=hQz (HB3.out.trans (hbw9.mono HB3.out.size));have HX4:Hid (w4.heap[XB]? =_):=(hbw9.block _ (q00 HX3.out)).trans HX3.out;have HY4:Hid (w4.heap[XB+1]? =_):=(hbw9.block _ (q00 HY3.out)).trans HY3.out;clear hbw9 Ax0 Ay0 x0 y0 HAH;obtain ⟨fb,fbo,e5,hf5⟩:=HA.out.fd (by have:=HOA.out.fl;have:=HM.out;omega);obtain ⟨mb,mbo,e5m,hm5l,hm5⟩:=HA.out.ms.row (by have:=HOA.out.ml;have:=HM.out;omega);have z1:=(HA.out.keep HB4.out).c1;have z2:=(HA.out.keep HB4.out).c2;rw [e5] at z1;rw [e5m] at z2;have z3:=(HB4.out.cell (p:=⟨_,_,_⟩) hm5l).trans (hm5 p (by have:=HOA.out.ml;have:=HM.out;omega));have HNM5:=hQz (q0h ba oa p fb fbo _ _ mb mbo _ _ _ w4 (by have:=HOA.out.fl;have:=HM.out;omega) (by have:=HOA.out.ml;have:=HM.out;omega) HA.out.caps.2.1 HA.out.caps.2.2 (Nat.lt_of_lt_of_le HA.out.lt HB4.out.size) (Nat.lt_of_lt_of_le hm5l HB4.out.size) z1 z2 z3);have HPT5:=hQz (hf5 p (by have:=HOA.out.fl;have:=HM.out;omega));clear z1 z2 z3;go_wp2_with fail;refine HNM5.out.mono ?_;rintro e w5 ⟨rfl,hq5⟩;have HB5:=hQz (HB4.out.trans (hq5.mono HB4.out.size));have HX5:Hid (w5.heap[XB]? =_):=(hq5.block _ (q00 HX4.out)).trans HX4.out;have HY5:Hid (w5.heap[XB+1]? =_):=(hq5.block _ (q00 HY4.out)).trans HY4.out;clear hq5 HNM5;obtain ⟨w6,hw6⟩:∃ w6,(w5.setCell ⟨XB,0,none⟩ (.pointer (some ⟨fb,fbo+p*9,none⟩))).setCell ⟨XB,1,none⟩ (.bool (a.must[p]'(by have:=HOA.out.ml;have:=HM.out;omega)))=w6:=⟨_,rfl⟩;have HB6:Hid (Below w.heap.size w w6):=by show Below _ _ _;rw [← hw6];exact (HB5.out.setCell (p:=⟨XB,0,none⟩) (by show w.heap.size≤XB;omega) _).setCell (p:=⟨XB,1,none⟩) (by show w.heap.size≤XB;omega) _
        have HX6:Hid (w6.heap[XB]? =some (.cells #[.pointer (some ⟨fb,fbo+p*9,none⟩),.bool (a.must[p]'(by have:=HOA.out.ml;have:=HM.out;omega))] 195 (0,0))):=by show _=_;rw [← hw6];exact q06 HX5.out
        have HY6:Hid (w6.heap[XB+1]? =some (.cells #[.pointer (some ⟨bb,ob+3,none⟩),.bool false] 195 (0,0))):=by show _=_;rw [← hw6];exact (Below.heap_setCell _ _ _ _ (by show XB+1≠XB;omega)).trans ((Below.heap_setCell _ _ _ _ (by show XB+1≠XB;omega)).trans HY5.out)
        have u0:=cell_of_row _ _ 0 _ _ _ HX5.out;have u1:=cell_of_row _ _ 1 _ _ _ HX5.out;have v0:=q01 (j:=0) HX5.out;have v1:=q01 (j:=1) HX5.out;have HWq:=hQz hw6;clear hw6;go_upto_region 7 with fail
        try rw [HWq.out]
        clear HWq u0 u1 v0 v1;have s0:=cell_of_row _ _ 0 _ _ _ HX6.out;have s1:=cell_of_row _ _ 1 _ _ _ HX6.out;have s2:=cell_of_row _ _ 0 _ _ _ HY6.out;have s3:=cell_of_row _ _ 1 _ _ _ HY6.out;have HCL:=hQz (HC.out w6 (a.fields[p]'(by have:=HOA.out.fl;have:=HM.out;omega),a.must[p]'(by have:=HOA.out.ml;have:=HM.out;omega)) (b.rest,false) _ _ _ _ HB6.out (HPT5.out.keep HB6.out) (HBB.out.keep HB6.out).rest (.inr (List.getElem_mem _)) (.inl rfl));obtain ⟨G,hG⟩:∃ G,g (a.fields[p]'(by have:=HOA.out.fl;have:=HM.out;omega),a.must[p]'(by have:=HOA.out.ml;have:=HM.out;omega)) (b.rest,false)=G:=⟨_,rfl⟩;rw [hG] at HCL HST;clear hG
        cases G with
        | true=>
         go_wp2_with fail;refine HCL.out.mono ?_;rintro e w20 ⟨rfl,hq20⟩;have HB20:=hQz (HB6.out.trans (hq20.mono HB6.out.size));clear hq20 s0 s1 s2 s3;go_wp2_with fail;go_roundw
         case rel=>exact ⟨p+1,q,by omega,by omega,by first|rfl|go_num,by first|rfl|go_num,HB20,HST.out⟩
         case measure=>simp [intOf];omega
        | false=>
         go_wp2_with fail;refine HCL.out.mono ?_;rintro e w20 ⟨rfl,hq20⟩;have HB20:=hQz (HB6.out.trans (hq20.mono HB6.out.size));clear hq20 s0 s1 s2 s3;have HRF:Hid (false=R):=HST.out;go_wp2_with fail;go_ret;exact ⟨by rw [← HRF.out];rfl,HB20.out⟩
  · obtain rfl:p=M:=by omega
    have hpM1:¬ (p:Int)<(p:Int):=by omega
    have hpM2:(p:Int)≤(p:Int):=by omega
    have hp0:(0:Int)≤(p:Int):=by omega
    by_cases hqN:q<N
    · have hqN1:(q:Int)<(N:Int):=by omega
      have hqN2:(q:Int)≤(N:Int):=by omega
      have hq0:(0:Int)≤(q:Int):=by omega
      have hlq:¬ lc=q:=by omega
      have hzb:=zip_at HOB.out (p:=q) (by rw [HN.out];exact hqN);have hze:(zipO a).drop p=[]:=by have:=q0J HOA.out;rw [HM.out] at this;exact this
      have hQ:=HQ.out;rw [hzb,hze,show p-p+(N-q)=(N-q-1)+1 from by omega,mgF,← hze,show N-q-1=p-p+(N-(q+1)) from by omega] at hQ;have HST:=hQz hQ;have HSD:Hid (ahd [] (b.names.drop q)=1):=rfl;clear hzb hze hQ HQ hpM;by_cases hkp:kc=p
      · obtain rfl:p=kc:=hkp.symm;have hU1:=hQz (q03 ba oa);have hU2:=hQz (q03 bb ob);go_wp2_with fail;refine (hU1.out _).mono ?_;rintro e w1 ⟨rfl,hq1⟩;have HB1:=hQz (HB.out.trans (hq1.mono HB.out.size));clear hq1;go_wp2_with fail;refine (hU2.out _).mono ?_;rintro e w2 ⟨rfl,hq2⟩;have HB2:=hQz (HB1.out.trans (hq2.mono HB1.out.size));clear hq2 x0 y0;obtain ⟨XB,hXB⟩:∃ XB,w2.heap.size=XB:=⟨_,rfl⟩;obtain ⟨w3,hw3⟩:∃ w3,(w2.alloc (.cells #[.pointer (some ⟨ba,oa+3,none⟩),.bool false] 195)).alloc (.cells #[.pointer (some ⟨bb,ob+3,none⟩),.bool false] 195)=w3:=⟨_,rfl⟩;have hb3:Below w2.heap.size w2 w3:=by rw [← hw3];exact ((Below.refl _ w2).alloc (Nat.le_refl _) _).alloc (by simp) _
        have HB3:=hQz (HB2.out.trans (hb3.mono HB2.out.size));have hwX:w.heap.size≤XB:=by rw [← hXB];exact HB2.out.size
        have hX3:w3.heap[XB]? =some (.cells #[.pointer (some ⟨ba,oa+3,none⟩),.bool false] 195 (0,0)):=by rw [← hw3,← hXB];exact (Below.heap_alloc _ _ _ (by simp)).trans (World.alloc_heap_new w2 _)
        have hY3:w3.heap[XB+1]? =some (.cells #[.pointer (some ⟨bb,ob+3,none⟩),.bool false] 195 (0,0)):=by
         rw [← hw3,← hXB];have h:=World.alloc_heap_new (w2.alloc (.cells #[.pointer (some ⟨ba,oa+3,none⟩),.bool false] 195)) (.cells #[.pointer (some ⟨bb,ob+3,none⟩),.bool false] 195);rw [World.size_alloc] at h;exact h
        have HX3:=hQz hX3;have HY3:=hQz hY3;have HWq:=hQz hw3;have HBq:=hQz hXB;clear hw3 hXB hb3 hX3 hY3 hU1 hU2;go_upto_region 4 with fail
        try rw [HWq.out]
        try rw [HBq.out]
        clear HWq HBq;obtain ⟨x0,y0⟩:=HX.out w3 HB3.out;have Ax0:=fun d os=>cell_regrown x0 d os;have Ay0:=fun d os=>cell_regrown y0 d os;obtain ⟨lb,loff,rfl,hlb,hlr⟩:=HBB.out.nm.row (by rw [HN.out];omega);clear hlr
        have HAH:Hid (∀ (X:Option Addr) (Y:Nat) (d:Nat) (os:Array Obj),Calls Tryz.prog 166 #[.slice X 0 Y,.slice (some ⟨lb,loff+q,none⟩) (N-q) (lc-q)] (grow (redrawn w3 d) os) fun e w'=>e= .returned (.int .i64 (1))∧Below (grow (redrawn w3 d) os).heap.size (grow (redrawn w3 d) os) w'):=fun X Y d os=>by
         have h:=q0k X 0 Y _ (N-q) (lc-q) [] (b.names.drop q) (grow (redrawn w3 d) os) (⟨fun h0=>absurd h0 (Nat.lt_irrefl 0)⟩:KIn _ X []) (((HBB.out.nm.keep HB3.out).keep (below_regrown w3 d os)).drop (by rw [HN.out];exact hqN)) rfl (by rw [List.length_drop,HN.out]) (by omega) (by omega);rw [show ahd _ _=(1:Int) from HSD.out] at h;exact h
        refine wp_region_quiet_below (by kernel_rfl) (by kernel_rfl) ?_
        repeat (go_big_quiet_step (exact Calls.regrown_of (HAH.out _ _ _ _)))
        refine wpQuiet_nil ?_;intro w4 hw'
        have hbw9:Below w3.heap.size w3 w4:=by
         obtain ⟨⟨dq,osq⟩,rfl⟩:=hw';exact below_regrown w3 dq osq
        clear hw';have HB4:=hQz (HB3.out.trans (hbw9.mono HB3.out.size));have HX4:Hid (w4.heap[XB]? =_):=(hbw9.block _ (q00 HX3.out)).trans HX3.out;have HY4:Hid (w4.heap[XB+1]? =_):=(hbw9.block _ (q00 HY3.out)).trans HY3.out;clear hbw9 Ax0 Ay0 x0 y0 HAH;obtain ⟨eb,ebo,e5,hf5⟩:=HBB.out.fd (by have:=HOB.out.fl;have:=HN.out;omega);obtain ⟨nb,nbo,e5m,hm5l,hm5⟩:=HBB.out.ms.row (by have:=HOB.out.ml;have:=HN.out;omega);have z1:=(HBB.out.keep HB4.out).c1;have z2:=(HBB.out.keep HB4.out).c2;rw [e5] at z1;rw [e5m] at z2;have z3:=(HB4.out.cell (p:=⟨_,_,_⟩) hm5l).trans (hm5 q (by have:=HOB.out.ml;have:=HN.out;omega));have HNM5:=hQz (q0h bb ob q eb ebo _ _ nb nbo _ _ _ w4 (by have:=HOB.out.fl;have:=HN.out;omega) (by have:=HOB.out.ml;have:=HN.out;omega) HBB.out.caps.2.1 HBB.out.caps.2.2 (Nat.lt_of_lt_of_le HBB.out.lt HB4.out.size) (Nat.lt_of_lt_of_le hm5l HB4.out.size) z1 z2 z3);have HPT5:=hQz (hf5 q (by have:=HOB.out.fl;have:=HN.out;omega));clear z1 z2 z3;go_wp2_with fail;refine HNM5.out.mono ?_;rintro e w5 ⟨rfl,hq5⟩;have HB5:=hQz (HB4.out.trans (hq5.mono HB4.out.size));have HX5:Hid (w5.heap[XB]? =_):=(hq5.block _ (q00 HX4.out)).trans HX4.out;have HY5:Hid (w5.heap[XB+1]? =_):=(hq5.block _ (q00 HY4.out)).trans HY4.out;clear hq5 HNM5;obtain ⟨w6,hw6⟩:∃ w6,(w5.setCell ⟨XB+1,0,none⟩ (.pointer (some ⟨eb,ebo+q*9,none⟩))).setCell ⟨XB+1,1,none⟩ (.bool (b.must[q]'(by have:=HOB.out.ml;have:=HN.out;omega)))=w6:=⟨_,rfl⟩;have HB6:Hid (Below w.heap.size w w6):=by show Below _ _ _;rw [← hw6];exact (HB5.out.setCell (p:=⟨XB+1,0,none⟩) (by show w.heap.size≤XB+1;omega) _).setCell (p:=⟨XB+1,1,none⟩) (by show w.heap.size≤XB+1;omega) _
        have HX6:Hid (w6.heap[XB]? =some (.cells #[.pointer (some ⟨ba,oa+3,none⟩),.bool false] 195 (0,0))):=by show _=_;rw [← hw6];exact (Below.heap_setCell _ _ _ _ (by show XB≠XB+1;omega)).trans ((Below.heap_setCell _ _ _ _ (by show XB≠XB+1;omega)).trans HX5.out)
        have HY6:Hid (w6.heap[XB+1]? =some (.cells #[.pointer (some ⟨eb,ebo+q*9,none⟩),.bool (b.must[q]'(by have:=HOB.out.ml;have:=HN.out;omega))] 195 (0,0))):=by show _=_;rw [← hw6];exact q06 HY5.out
        have u0:=cell_of_row _ _ 0 _ _ _ HY5.out;have u1:=cell_of_row _ _ 1 _ _ _ HY5.out;have v0:=q01 (j:=0) HY5.out;have v1:=q01 (j:=1) HY5.out;have HWq:=hQz hw6;clear hw6;go_upto_region 10 with fail
        try rw [HWq.out]
        clear HWq u0 u1 v0 v1;have s0:=cell_of_row _ _ 0 _ _ _ HX6.out;have s1:=cell_of_row _ _ 1 _ _ _ HX6.out;have s2:=cell_of_row _ _ 0 _ _ _ HY6.out;have s3:=cell_of_row _ _ 1 _ _ _ HY6.out;have HCL:=hQz (HC.out w6 (a.rest,false) (b.fields[q]'(by have:=HOB.out.fl;have:=HN.out;omega),b.must[q]'(by have:=HOB.out.ml;have:=HN.out;omega)) _ _ _ _ HB6.out (HA.out.keep HB6.out).rest (HPT5.out.keep HB6.out) (.inl rfl) (.inr (List.getElem_mem _)));obtain ⟨G,hG⟩:∃ G,g (a.rest,false) (b.fields[q]'(by have:=HOB.out.fl;have:=HN.out;omega),b.must[q]'(by have:=HOB.out.ml;have:=HN.out;omega))=G:=⟨_,rfl⟩;rw [hG] at HCL HST;clear hG
        cases G with
        | true=>
         go_wp2_with fail;refine HCL.out.mono ?_;rintro e w20 ⟨rfl,hq20⟩;have HB20:=hQz (HB6.out.trans (hq20.mono HB6.out.size));clear hq20 s0 s1 s2 s3;go_wp2_with fail;go_roundw
         case rel=>exact ⟨p,q+1,by omega,by omega,by first|rfl|go_num,by first|rfl|go_num,HB20,HST.out⟩
         case measure=>simp [intOf];omega
        | false=>
         go_wp2_with fail;refine HCL.out.mono ?_;rintro e w20 ⟨rfl,hq20⟩;have HB20:=hQz (HB6.out.trans (hq20.mono HB6.out.size));clear hq20 s0 s1 s2 s3;have HRF:Hid (false=R):=HST.out;go_wp2_with fail;go_ret;exact ⟨by rw [← HRF.out];rfl,HB20.out⟩
      · have hU1:=hQz (q03 ba oa);have hU2:=hQz (q03 bb ob);go_wp2_with fail;refine (hU1.out _).mono ?_;rintro e w1 ⟨rfl,hq1⟩;have HB1:=hQz (HB.out.trans (hq1.mono HB.out.size));clear hq1;go_wp2_with fail;refine (hU2.out _).mono ?_;rintro e w2 ⟨rfl,hq2⟩;have HB2:=hQz (HB1.out.trans (hq2.mono HB1.out.size));clear hq2 x0 y0;obtain ⟨XB,hXB⟩:∃ XB,w2.heap.size=XB:=⟨_,rfl⟩;obtain ⟨w3,hw3⟩:∃ w3,(w2.alloc (.cells #[.pointer (some ⟨ba,oa+3,none⟩),.bool false] 195)).alloc (.cells #[.pointer (some ⟨bb,ob+3,none⟩),.bool false] 195)=w3:=⟨_,rfl⟩;have hb3:Below w2.heap.size w2 w3:=by rw [← hw3];exact ((Below.refl _ w2).alloc (Nat.le_refl _) _).alloc (by simp) _
        have HB3:=hQz (HB2.out.trans (hb3.mono HB2.out.size));have hwX:w.heap.size≤XB:=by rw [← hXB];exact HB2.out.size
        have hX3:w3.heap[XB]? =some (.cells #[.pointer (some ⟨ba,oa+3,none⟩),.bool false] 195 (0,0)):=by rw [← hw3,← hXB];exact (Below.heap_alloc _ _ _ (by simp)).trans (World.alloc_heap_new w2 _)
        have hY3:w3.heap[XB+1]? =some (.cells #[.pointer (some ⟨bb,ob+3,none⟩),.bool false] 195 (0,0)):=by
         rw [← hw3,← hXB];have h:=World.alloc_heap_new (w2.alloc (.cells #[.pointer (some ⟨ba,oa+3,none⟩),.bool false] 195)) (.cells #[.pointer (some ⟨bb,ob+3,none⟩),.bool false] 195);rw [World.size_alloc] at h;exact h
        have HX3:=hQz hX3;have HY3:=hQz hY3;have HWq:=hQz hw3;have HBq:=hQz hXB;clear hw3 hXB hb3 hX3 hY3 hU1 hU2;go_upto_region 4 with fail
        try rw [HWq.out]
        try rw [HBq.out]
        clear HWq HBq;obtain ⟨x0,y0⟩:=HX.out w3 HB3.out;have Ax0:=fun d os=>cell_regrown x0 d os;have Ay0:=fun d os=>cell_regrown y0 d os;obtain ⟨lb,loff,rfl,hlb,hlr⟩:=HBB.out.nm.row (by rw [HN.out];omega);clear hlr
        have HAH:Hid (∀ (X:Option Addr) (Y:Nat) (d:Nat) (os:Array Obj),Calls Tryz.prog 166 #[.slice X 0 Y,.slice (some ⟨lb,loff+q,none⟩) (N-q) (lc-q)] (grow (redrawn w3 d) os) fun e w'=>e= .returned (.int .i64 (1))∧Below (grow (redrawn w3 d) os).heap.size (grow (redrawn w3 d) os) w'):=fun X Y d os=>by
         have h:=q0k X 0 Y _ (N-q) (lc-q) [] (b.names.drop q) (grow (redrawn w3 d) os) (⟨fun h0=>absurd h0 (Nat.lt_irrefl 0)⟩:KIn _ X []) (((HBB.out.nm.keep HB3.out).keep (below_regrown w3 d os)).drop (by rw [HN.out];exact hqN)) rfl (by rw [List.length_drop,HN.out]) (by omega) (by omega);rw [show ahd _ _=(1:Int) from HSD.out] at h;exact h
        refine wp_region_quiet_below (by kernel_rfl) (by kernel_rfl) ?_
        repeat (go_big_quiet_step (exact Calls.regrown_of (HAH.out _ _ _ _)))
        refine wpQuiet_nil ?_;intro w4 hw'
        have hbw9:Below w3.heap.size w3 w4:=by
         obtain ⟨⟨dq,osq⟩,rfl⟩:=hw';exact below_regrown w3 dq osq
        clear hw';have HB4:=hQz (HB3.out.trans (hbw9.mono HB3.out.size));have HX4:Hid (w4.heap[XB]? =_):=(hbw9.block _ (q00 HX3.out)).trans HX3.out;have HY4:Hid (w4.heap[XB+1]? =_):=(hbw9.block _ (q00 HY3.out)).trans HY3.out;clear hbw9 Ax0 Ay0 x0 y0 HAH;obtain ⟨eb,ebo,e5,hf5⟩:=HBB.out.fd (by have:=HOB.out.fl;have:=HN.out;omega);obtain ⟨nb,nbo,e5m,hm5l,hm5⟩:=HBB.out.ms.row (by have:=HOB.out.ml;have:=HN.out;omega);have z1:=(HBB.out.keep HB4.out).c1;have z2:=(HBB.out.keep HB4.out).c2;rw [e5] at z1;rw [e5m] at z2;have z3:=(HB4.out.cell (p:=⟨_,_,_⟩) hm5l).trans (hm5 q (by have:=HOB.out.ml;have:=HN.out;omega));have HNM5:=hQz (q0h bb ob q eb ebo _ _ nb nbo _ _ _ w4 (by have:=HOB.out.fl;have:=HN.out;omega) (by have:=HOB.out.ml;have:=HN.out;omega) HBB.out.caps.2.1 HBB.out.caps.2.2 (Nat.lt_of_lt_of_le HBB.out.lt HB4.out.size) (Nat.lt_of_lt_of_le hm5l HB4.out.size) z1 z2 z3);have HPT5:=hQz (hf5 q (by have:=HOB.out.fl;have:=HN.out;omega));clear z1 z2 z3;go_wp2_with fail;refine HNM5.out.mono ?_;rintro e w5 ⟨rfl,hq5⟩;have HB5:=hQz (HB4.out.trans (hq5.mono HB4.out.size));have HX5:Hid (w5.heap[XB]? =_):=(hq5.block _ (q00 HX4.out)).trans HX4.out;have HY5:Hid (w5.heap[XB+1]? =_):=(hq5.block _ (q00 HY4.out)).trans HY4.out;clear hq5 HNM5;obtain ⟨w6,hw6⟩:∃ w6,(w5.setCell ⟨XB+1,0,none⟩ (.pointer (some ⟨eb,ebo+q*9,none⟩))).setCell ⟨XB+1,1,none⟩ (.bool (b.must[q]'(by have:=HOB.out.ml;have:=HN.out;omega)))=w6:=⟨_,rfl⟩;have HB6:Hid (Below w.heap.size w w6):=by show Below _ _ _;rw [← hw6];exact (HB5.out.setCell (p:=⟨XB+1,0,none⟩) (by show w.heap.size≤XB+1;omega) _).setCell (p:=⟨XB+1,1,none⟩) (by show w.heap.size≤XB+1;omega) _
        have HX6:Hid (w6.heap[XB]? =some (.cells #[.pointer (some ⟨ba,oa+3,none⟩),.bool false] 195 (0,0))):=by show _=_;rw [← hw6];exact (Below.heap_setCell _ _ _ _ (by show XB≠XB+1;omega)).trans ((Below.heap_setCell _ _ _ _ (by show XB≠XB+1;omega)).trans HX5.out)
        have HY6:Hid (w6.heap[XB+1]? =some (.cells #[.pointer (some ⟨eb,ebo+q*9,none⟩),.bool (b.must[q]'(by have:=HOB.out.ml;have:=HN.out;omega))] 195 (0,0))):=by show _=_;rw [← hw6];exact q06 HY5.out
        have u0:=cell_of_row _ _ 0 _ _ _ HY5.out;have u1:=cell_of_row _ _ 1 _ _ _ HY5.out;have v0:=q01 (j:=0) HY5.out;have v1:=q01 (j:=1) HY5.out;have HWq:=hQz hw6;clear hw6;go_upto_region 10 with fail
        try rw [HWq.out]
        clear HWq u0 u1 v0 v1;have s0:=cell_of_row _ _ 0 _ _ _ HX6.out;have s1:=cell_of_row _ _ 1 _ _ _ HX6.out;have s2:=cell_of_row _ _ 0 _ _ _ HY6.out;have s3:=cell_of_row _ _ 1 _ _ _ HY6.out;have HCL:=hQz (HC.out w6 (a.rest,false) (b.fields[q]'(by have:=HOB.out.fl;have:=HN.out;omega),b.must[q]'(by have:=HOB.out.ml;have:=HN.out;omega)) _ _ _ _ HB6.out (HA.out.keep HB6.out).rest (HPT5.out.keep HB6.out) (.inl rfl) (.inr (List.getElem_mem _)));obtain ⟨G,hG⟩:∃ G,g (a.rest,false) (b.fields[q]'(by have:=HOB.out.fl;have:=HN.out;omega),b.must[q]'(by have:=HOB.out.ml;have:=HN.out;omega))=G:=⟨_,rfl⟩;rw [hG] at HCL HST;clear hG
        cases G with
        | true=>
         go_wp2_with fail;refine HCL.out.mono ?_;rintro e w20 ⟨rfl,hq20⟩;have HB20:=hQz (HB6.out.trans (hq20.mono HB6.out.size));clear hq20 s0 s1 s2 s3;go_wp2_with fail;go_roundw
         case rel=>exact ⟨p,q+1,by omega,by omega,by first|rfl|go_num,by first|rfl|go_num,HB20,HST.out⟩
         case measure=>simp [intOf];omega
        | false=>
         go_wp2_with fail;refine HCL.out.mono ?_;rintro e w20 ⟨rfl,hq20⟩;have HB20:=hQz (HB6.out.trans (hq20.mono HB6.out.size));clear hq20 s0 s1 s2 s3;have HRF:Hid (false=R):=HST.out;go_wp2_with fail;go_ret;exact ⟨by rw [← HRF.out];rfl,HB20.out⟩
    · obtain rfl:q=N:=by omega
      have hqN1:¬ (q:Int)<(q:Int):=by omega
      have hze:(zipO a).drop p=[]:=by have:=q0J HOA.out;rw [HM.out] at this;exact this
      have hzf:(zipO b).drop q=[]:=by have:=q0J HOB.out;rw [HN.out] at this;exact this
      have HRT:Hid (true=R):=by
       have hQ:=HQ.out;rw [hze,hzf,show p-p+(q-q)=0 from by omega] at hQ;exact hQ
      clear hze hzf;go_wp2_with fail;go_ret;exact ⟨by rw [← HRT.out];rfl,HB.out⟩
end Go.Proofs.YtnokkmiaeacogaaGreat
