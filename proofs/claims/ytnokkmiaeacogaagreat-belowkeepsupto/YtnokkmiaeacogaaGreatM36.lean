import Derived.Test.YtnokkmiaeacogaaGreatM33
import Derived.Test.YtnokkmiaeacogaaGreatM35
import Derived.Test.YtnokkmiaeacogaaGreatM14
import Derived.Test.YtnokkmiaeacogaaGreatM31
import Derived.Test.YtnokkmiaeacogaaGreatM32
import Derived.Test.YtnokkmiaeacogaaGreatM29
import Derived.Laws.EntriesVeiled
set_option linter.unusedVariables false
set_option linter.unusedSimpArgs false
namespace Go.Proofs.YtnokkmiaeacogaaGreat
open Go.RowKit Go.Shelf Go.Sort
attribute [local go_sem] Oper.semAt_some
set_option maxRecDepth 100000
set_option maxHeartbeats 12800000
theorem nums_met_none (ba oa bb ob:Nat) (w:World) (la:ba<w.heap.size) (no:Option Addr) (nc:Nat) (X4:w.cell? ⟨ba,oa+4,none⟩=some (.slice no 0 nc)):Calls Tryz.prog 115 #[.agg #[.pointer (some ⟨ba,oa,none⟩),.pointer (some ⟨bb,ob,none⟩)]] w fun e w'=>e= .returned (.bool false)∧Below w.heap.size w w':=by
 obtain ⟨W0,hW0⟩:∃ W0,w.alloc (.cells #[.pointer (some ⟨ba,oa,none⟩),.pointer (some ⟨bb,ob,none⟩)] 100)=W0:=⟨_,rfl⟩;have HX:Hid (Bx2c w W0 w.heap.size (.pointer (some ⟨ba,oa,none⟩)) (.pointer (some ⟨bb,ob,none⟩))):=by rw [← hW0];exact q07 w _ _ _
 have p0:=HX.out.c0;have p1:=HX.out.c1;have x4:=(HX.out.below.cell (p:=⟨_,_,_⟩) la).trans X4;go_enter Tryz.func115,Tryz.ntmps115;go_wp2_with fail;go_ret;exact ⟨rfl,HX.out.below⟩
theorem nums_met_out (ba oa bb ob:Nat) (w:World) (la:ba<w.heap.size) (lb:bb<w.heap.size) (no:Option Addr) (M nc:Nat) (qo:Option Addr) (qc:Nat) (hM:0<M) (X4:w.cell? ⟨ba,oa+4,none⟩=some (.slice no M nc)) (Y4:w.cell? ⟨bb,ob+4,none⟩=some (.slice qo 0 qc)):Calls Tryz.prog 115 #[.agg #[.pointer (some ⟨ba,oa,none⟩),.pointer (some ⟨bb,ob,none⟩)]] w fun e w'=>e= .returned (.bool false)∧Below w.heap.size w w':=by
 obtain ⟨W0,hW0⟩:∃ W0,w.alloc (.cells #[.pointer (some ⟨ba,oa,none⟩),.pointer (some ⟨bb,ob,none⟩)] 100)=W0:=⟨_,rfl⟩;have HX:Hid (Bx2c w W0 w.heap.size (.pointer (some ⟨ba,oa,none⟩)) (.pointer (some ⟨bb,ob,none⟩))):=by rw [← hW0];exact q07 w _ _ _
 have hm1:((M:Int)==0)=false:=by simp;omega
 have p0:=HX.out.c0;have p1:=HX.out.c1;have x4:=(HX.out.below.cell (p:=⟨_,_,_⟩) la).trans X4;have y4:=(HX.out.below.cell (p:=⟨_,_,_⟩) lb).trans Y4;go_enter Tryz.func115,Tryz.ntmps115;go_wp2_with fail;go_ret;exact ⟨by first|rfl|simp,HX.out.below⟩
theorem nums_met_both (ba oa bb ob:Nat) (w:World) (la:ba<w.heap.size) (lb:bb<w.heap.size) (sb so qb qo M nc N qc:Nat) (hM:0<M) (hN:0<N) (lsb:sb<w.heap.size) (lqb:qb<w.heap.size) (s1 s2 q1 q2:ByteArray) (r1 r2:Bool) (X4:w.cell? ⟨ba,oa+4,none⟩=some (.slice (some ⟨sb,so,none⟩) M nc)) (Y4:w.cell? ⟨bb,ob+4,none⟩=some (.slice (some ⟨qb,qo,none⟩) N qc)) (E1:w.cell? ⟨sb,so,none⟩=some (.string s1)) (E2:w.cell? ⟨sb,so+1,none⟩=some (.string s2)) (G1:w.cell? ⟨qb,qo,none⟩=some (.string q1)) (G2:w.cell? ⟨qb,qo+1,none⟩=some (.string q2))
 (HC1:Hid (∀ u,Calls Tryz.prog 143 #[.string s1,.string q2] u fun e w'=>e= .returned (.bool r1)∧Below u.heap.size u w')) (HC2:Hid (∀ u,Calls Tryz.prog 143 #[.string q1,.string s2] u fun e w'=>e= .returned (.bool r2)∧Below u.heap.size u w')):
 Calls Tryz.prog 115 #[.agg #[.pointer (some ⟨ba,oa,none⟩),.pointer (some ⟨bb,ob,none⟩)]] w fun e w'=>e= .returned (.bool (!r1&& !r2))∧Below w.heap.size w w':=by
 have hm1:((M:Int)==0)=false:=by simp;omega
 have hn1:((N:Int)==0)=false:=by simp;omega
 have hm3:(0:Int)<(M:Int):=by omega
 have hn3:(0:Int)<(N:Int):=by omega
 obtain ⟨W0,hW0⟩:∃ W0,w.alloc (.cells #[.pointer (some ⟨ba,oa,none⟩),.pointer (some ⟨bb,ob,none⟩)] 100)=W0:=⟨_,rfl⟩;have HX:Hid (Bx2c w W0 w.heap.size (.pointer (some ⟨ba,oa,none⟩)) (.pointer (some ⟨bb,ob,none⟩))):=by rw [← hW0];exact q07 w _ _ _
 have p0:=HX.out.c0;have p1:=HX.out.c1;have x4:=(HX.out.below.cell (p:=⟨_,_,_⟩) la).trans X4;have y4:=(HX.out.below.cell (p:=⟨_,_,_⟩) lb).trans Y4;have e1:=(HX.out.below.cell (p:=⟨_,_,_⟩) lsb).trans E1;have e2:=(HX.out.below.cell (p:=⟨_,_,_⟩) lsb).trans E2;have g1:=(HX.out.below.cell (p:=⟨_,_,_⟩) lqb).trans G1;have g2:=(HX.out.below.cell (p:=⟨_,_,_⟩) lqb).trans G2;have hR0:W0.heap[w.heap.size]? =some (.cells #[.pointer (some ⟨ba,oa,none⟩),.pointer (some ⟨bb,ob,none⟩)] 100 (0,0)):=by rw [← hW0];exact World.alloc_heap_new w _
 have HSS:Hid (∀ u,(Below w.heap.size w u∧u.heap[w.heap.size]? =some (.cells #[.pointer (some ⟨ba,oa,none⟩),.pointer (some ⟨bb,ob,none⟩)] 100 (0,0)))→u.cell? ⟨w.heap.size,0,none⟩=some (.pointer (some ⟨ba,oa,none⟩))∧u.cell? ⟨w.heap.size,1,none⟩=some (.pointer (some ⟨bb,ob,none⟩))∧u.cell? ⟨ba,oa+4,none⟩=some (.slice (some ⟨sb,so,none⟩) M nc)∧u.cell? ⟨bb,ob+4,none⟩=some (.slice (some ⟨qb,qo,none⟩) N qc)∧u.cell? ⟨sb,so,none⟩=some (.string s1)∧u.cell? ⟨sb,so+1,none⟩=some (.string s2)∧u.cell? ⟨qb,qo,none⟩=some (.string q1)∧u.cell? ⟨qb,qo+1,none⟩=some (.string q2)):=fun u hu=>⟨cell_of_row _ _ 0 _ _ _ hu.2,cell_of_row _ _ 1 _ _ _ hu.2,(hu.1.cell (p:=⟨_,_,_⟩) la).trans X4,(hu.1.cell (p:=⟨_,_,_⟩) lb).trans Y4,(hu.1.cell (p:=⟨_,_,_⟩) lsb).trans E1,(hu.1.cell (p:=⟨_,_,_⟩) lsb).trans E2,(hu.1.cell (p:=⟨_,_,_⟩) lqb).trans G1,(hu.1.cell (p:=⟨_,_,_⟩) lqb).trans G2⟩;obtain ⟨WD,hWD⟩:∃ WD,W0.drew=WD:=⟨_,rfl⟩;have hD:Below W0.heap.size W0 WD:=by rw [← hWD];exact (Below.refl W0.heap.size W0).drew
 have HD:Hid (Below w.heap.size w WD∧WD.heap[w.heap.size]? =some (.cells #[.pointer (some ⟨ba,oa,none⟩),.pointer (some ⟨bb,ob,none⟩)] 100 (0,0))):=⟨HX.out.below.trans (hD.mono HX.out.below.size),(hD.block _ (q00 hR0)).trans hR0⟩;have HDq:=hQz hWD;clear hWD hD hR0;go_enter Tryz.func115,Tryz.ntmps115;go_upto_region 3 with fail;clear p0 p1 x4 y4 e1 e2 g1 g2;clear hW0;have KEY:∀ (X Y:Nat) (W:World),(Below w.heap.size w W∧W.heap[X]? =some (.cells #[.string s1,.string s2] 83 (0,0))∧W.heap[Y]? =some (.cells #[.string q1,.string q2] 83 (0,0)))→(?PP:Nat→Nat→World→Prop) X Y W:= ?key;refine wp_region_held_drew (S:=fun u=>u.cell? ⟨w.heap.size,0,none⟩=some (.pointer (some ⟨ba,oa,none⟩))∧u.cell? ⟨w.heap.size,1,none⟩=some (.pointer (some ⟨bb,ob,none⟩))∧u.cell? ⟨ba,oa+4,none⟩=some (.slice (some ⟨sb,so,none⟩) M nc)∧u.cell? ⟨bb,ob+4,none⟩=some (.slice (some ⟨qb,qo,none⟩) N qc)∧u.cell? ⟨sb,so,none⟩=some (.string s1)∧u.cell? ⟨sb,so+1,none⟩=some (.string s2)∧u.cell? ⟨qb,qo,none⟩=some (.string q1)∧u.cell? ⟨qb,qo+1,none⟩=some (.string q2)) (by kernel_rfl) (by rw [HDq.out];exact HSS.out _ HD.out) (fun hHeld=> ?_);rw [HDq.out] at hHeld ⊢;refine wpAnyH_take (i:=0) (oi:=_) (v:= .pointer (some ⟨w.heap.size,0,none⟩)) rfl (by kernel_rfl) (by kernel_rfl) (by kernel_rfl) (fun _ _ _ h=>h) (.inl ⟨by rfl,?_⟩) (by assumption) ?_
 · intro w hSw;go_simp
 try simp only [Act.put,List.getElem_toArray,List.getElem_cons_succ,List.getElem_cons_zero,List.setIfInBounds_toArray,List.set_cons_zero,List.set_cons_succ]
 refine wpAnyH_take (i:=1) (oi:=_) (v:= .pointer (some ⟨ba,oa,none⟩)) rfl (by kernel_rfl) (by kernel_rfl) (by kernel_rfl) (fun _ _ _ h=>h) (.inl ⟨by rfl,?_⟩) (by assumption) ?_
 · intro w hSw;go_simp
 try simp only [Act.put,List.getElem_toArray,List.getElem_cons_succ,List.getElem_cons_zero,List.setIfInBounds_toArray,List.set_cons_zero,List.set_cons_succ]
 refine wpAnyH_take (i:=2) (oi:=_) (v:= .pointer (some ⟨ba,oa,none⟩)) rfl (by kernel_rfl) (by kernel_rfl) (by kernel_rfl) (fun _ _ _ h=>h) (.inl ⟨by rfl,?_⟩) (by assumption) ?_
 · intro w hSw;go_simp
 try simp only [Act.put,List.getElem_toArray,List.getElem_cons_succ,List.getElem_cons_zero,List.setIfInBounds_toArray,List.set_cons_zero,List.set_cons_succ]
 refine wpAnyH_take (i:=3) (oi:=_) (v:= .pointer (some ⟨ba,oa+4,none⟩)) rfl (by kernel_rfl) (by kernel_rfl) (by kernel_rfl) (fun _ _ _ h=>h) (.inl ⟨by rfl,?_⟩) (by assumption) ?_
 · intro w hSw;go_simp
 try simp only [Act.put,List.getElem_toArray,List.getElem_cons_succ,List.getElem_cons_zero,List.setIfInBounds_toArray,List.set_cons_zero,List.set_cons_succ]
 refine wpAnyH_take (i:=4) (oi:=_) (v:= .slice (some ⟨sb,so,none⟩) M nc) rfl (by kernel_rfl) (by kernel_rfl) (by kernel_rfl) (fun _ _ _ h=>h) (.inl ⟨by rfl,?_⟩) (by assumption) ?_
 · intro w hSw;go_simp
 try simp only [Act.put,List.getElem_toArray,List.getElem_cons_succ,List.getElem_cons_zero,List.setIfInBounds_toArray,List.set_cons_zero,List.set_cons_succ]
 refine wpAnyH_take (i:=5) (oi:=_) (v:= .pointer (some ⟨sb,so,none⟩)) rfl (by kernel_rfl) (by kernel_rfl) (by kernel_rfl) (fun _ _ _ h=>h) (.inl ⟨by rfl,?_⟩) (by assumption) ?_
 · intro w hSw;go_simp
 try simp only [Act.put,List.getElem_toArray,List.getElem_cons_succ,List.getElem_cons_zero,List.setIfInBounds_toArray,List.set_cons_zero,List.set_cons_succ]
 refine wpAnyH_take (i:=6) (oi:=_) (v:= .agg #[.string s1,.string s2]) rfl (by kernel_rfl) (by kernel_rfl) (by kernel_rfl) (fun _ _ _ h=>h) (.inl ⟨by rfl,?_⟩) (by assumption) ?_
 · intro w hSw;go_simp
 try simp only [Act.put,List.getElem_toArray,List.getElem_cons_succ,List.getElem_cons_zero,List.setIfInBounds_toArray,List.set_cons_zero,List.set_cons_succ]
 refine wpAnyH_take (i:=7) (oi:=_) (v:= .pointer (some ⟨w.heap.size,1,none⟩)) rfl (by kernel_rfl) (by kernel_rfl) (by kernel_rfl) (fun _ _ _ h=>h) (.inl ⟨by rfl,?_⟩) (by assumption) ?_
 · intro w hSw;go_simp
 try simp only [Act.put,List.getElem_toArray,List.getElem_cons_succ,List.getElem_cons_zero,List.setIfInBounds_toArray,List.set_cons_zero,List.set_cons_succ]
 refine wpAnyH_take (i:=8) (oi:=_) (v:= .pointer (some ⟨bb,ob,none⟩)) rfl (by kernel_rfl) (by kernel_rfl) (by kernel_rfl) (fun _ _ _ h=>h) (.inl ⟨by rfl,?_⟩) (by assumption) ?_
 · intro w hSw;go_simp
 try simp only [Act.put,List.getElem_toArray,List.getElem_cons_succ,List.getElem_cons_zero,List.setIfInBounds_toArray,List.set_cons_zero,List.set_cons_succ]
 refine wpAnyH_take (i:=9) (oi:=_) (v:= .pointer (some ⟨bb,ob,none⟩)) rfl (by kernel_rfl) (by kernel_rfl) (by kernel_rfl) (fun _ _ _ h=>h) (.inl ⟨by rfl,?_⟩) (by assumption) ?_
 · intro w hSw;go_simp
 try simp only [Act.put,List.getElem_toArray,List.getElem_cons_succ,List.getElem_cons_zero,List.setIfInBounds_toArray,List.set_cons_zero,List.set_cons_succ]
 refine wpAnyH_take (i:=10) (oi:=_) (v:= .pointer (some ⟨bb,ob+4,none⟩)) rfl (by kernel_rfl) (by kernel_rfl) (by kernel_rfl) (fun _ _ _ h=>h) (.inl ⟨by rfl,?_⟩) (by assumption) ?_
 · intro w hSw;go_simp
 try simp only [Act.put,List.getElem_toArray,List.getElem_cons_succ,List.getElem_cons_zero,List.setIfInBounds_toArray,List.set_cons_zero,List.set_cons_succ]
 refine wpAnyH_take (i:=11) (oi:=_) (v:= .slice (some ⟨qb,qo,none⟩) N qc) rfl (by kernel_rfl) (by kernel_rfl) (by kernel_rfl) (fun _ _ _ h=>h) (.inl ⟨by rfl,?_⟩) (by assumption) ?_
 · intro w hSw;go_simp
 try simp only [Act.put,List.getElem_toArray,List.getElem_cons_succ,List.getElem_cons_zero,List.setIfInBounds_toArray,List.set_cons_zero,List.set_cons_succ]
 refine wpAnyH_take (i:=12) (oi:=_) (v:= .pointer (some ⟨qb,qo,none⟩)) rfl (by kernel_rfl) (by kernel_rfl) (by kernel_rfl) (fun _ _ _ h=>h) (.inl ⟨by rfl,?_⟩) (by assumption) ?_
 · intro w hSw;go_simp
 try simp only [Act.put,List.getElem_toArray,List.getElem_cons_succ,List.getElem_cons_zero,List.setIfInBounds_toArray,List.set_cons_zero,List.set_cons_succ]
 refine wpAnyH_take (i:=13) (oi:=_) (v:= .agg #[.string q1,.string q2]) rfl (by kernel_rfl) (by kernel_rfl) (by kernel_rfl) (fun _ _ _ h=>h) (.inl ⟨by rfl,?_⟩) (by assumption) ?_
 · intro w hSw;go_simp
 try simp only [Act.put,List.getElem_toArray,List.getElem_cons_succ,List.getElem_cons_zero,List.setIfInBounds_toArray,List.set_cons_zero,List.set_cons_succ]
 refine wpAnyH_ready (rs:=[14,15]) (by kernel_rfl) (by simp) ?_;refine AllReadyH.cons (o:=_) rfl (fun K hK=> ?_) ?_
 · obtain ⟨w1,hq1⟩:∃ w1,WD.alloc (.cells #[.string ⟨#[]⟩,.string ⟨#[]⟩] 83)=w1:=⟨_,rfl⟩;have hb1:Below WD.heap.size WD w1:=by rw [← hq1];exact q05 WD _
   have HE1:Hid (Below w.heap.size w w1∧w1.heap[w.heap.size]? =some (.cells #[.pointer (some ⟨ba,oa,none⟩),.pointer (some ⟨bb,ob,none⟩)] 100 (0,0))):=⟨HD.out.1.trans (hb1.mono HD.out.1.size),(hb1.block _ (q00 HD.out.2)).trans HD.out.2⟩;obtain ⟨X,hB1⟩:∃ X,WD.heap.size=X:=⟨_,rfl⟩;have hX:w1.heap[X]? =some (.cells #[.string ⟨#[]⟩,.string ⟨#[]⟩] 83 (0,0)):=by rw [← hq1,← hB1];exact World.alloc_heap_new WD _
   have hlX:w.heap.size<X:=by rw [← hB1];exact q00 HD.out.2
   have HQ1:=hQz hq1;have HQB1:=hQz hB1;have HHx:=hQz hX;clear hq1 hB1 hb1 hX;go_simp
   try rw [HQ1.out]
   try rw [HQB1.out]
   clear HQ1 HQB1;refine hK.out _ _ (HSS.out _ HE1.out) (fun hHeld=> ?_);clear hK K
   try simp only [Act.put,List.getElem_toArray,List.getElem_cons_succ,List.getElem_cons_zero,List.setIfInBounds_toArray,List.set_cons_zero,List.set_cons_succ]
   refine wpAnyH_ready (rs:=[15]) (by kernel_rfl) (by simp) ?_;refine AllReadyH.cons (o:=_) rfl (fun K hK=> ?_) AllReadyH.nil;obtain ⟨w2,hq2⟩:∃ w2,w1.alloc (.cells #[.string ⟨#[]⟩,.string ⟨#[]⟩] 83)=w2:=⟨_,rfl⟩;have hb2:Below w1.heap.size w1 w2:=by rw [← hq2];exact q05 w1 _
   have HE2:Hid (Below w.heap.size w w2∧w2.heap[w.heap.size]? =some (.cells #[.pointer (some ⟨ba,oa,none⟩),.pointer (some ⟨bb,ob,none⟩)] 100 (0,0))):=⟨HE1.out.1.trans (hb2.mono HE1.out.1.size),(hb2.block _ (q00 HE1.out.2)).trans HE1.out.2⟩;obtain ⟨Y,hB2⟩:∃ Y,w1.heap.size=Y:=⟨_,rfl⟩;have hY:w2.heap[Y]? =some (.cells #[.string ⟨#[]⟩,.string ⟨#[]⟩] 83 (0,0)):=by rw [← hq2,← hB2];exact World.alloc_heap_new w1 _
   have hlY:w.heap.size<Y:=by rw [← hB2];exact q00 HE1.out.2
   have hne:X≠Y:=by have:=q00 HHx.out;rw [← hB2];omega
   have HHx2:Hid (w2.heap[X]? =_):=(hb2.block _ (q00 HHx.out)).trans HHx.out;have HQ2:=hQz hq2;have HQB2:=hQz hB2;have HHy:=hQz hY;clear hq2 hB2 hb2 hY;go_simp
   try rw [HQ2.out]
   try rw [HQB2.out]
   clear HQ2 HQB2;have HHx:=HHx2;refine hK.out _ _ (HSS.out _ HE2.out) (fun hHeld=> ?_);clear hK K
   try simp only [Act.put,List.getElem_toArray,List.getElem_cons_succ,List.getElem_cons_zero,List.setIfInBounds_toArray,List.set_cons_zero,List.set_cons_succ]
   refine wpAnyH_ready (rs:=[16]) (by kernel_rfl) (by simp) ?_;refine AllReadyH.cons (o:=_) rfl (fun K hK=> ?_) AllReadyH.nil;obtain ⟨w3,hs3⟩:∃ w3,(w2.setCell ⟨X,0,none⟩ (.string s1)).setCell ⟨X,1,none⟩ (.string s2)=w3:=⟨_,rfl⟩;have g0:=cell_of_row _ _ 0 _ _ _ HHx.out;have g1:=cell_of_row _ _ 1 _ _ _ HHx.out;have f0:=q01 (j:=0) HHx.out;have f1:=q01 (j:=1) HHx.out;have HHx3:Hid (w3.heap[X]? =some (.cells #[.string s1,.string s2] 83 (0,0))):=by show _=_;rw [← hs3];exact q06 HHx.out
   have HHy3:Hid (w3.heap[Y]? =some (.cells #[.string ⟨#[]⟩,.string ⟨#[]⟩] 83 (0,0))):=by show _=_;rw [← hs3];exact (Below.heap_setCell _ _ _ _ (by show Y≠X;omega)).trans ((Below.heap_setCell _ _ _ _ (by show Y≠X;omega)).trans HHy.out)
   have HE3:Hid (Below w.heap.size w w3∧w3.heap[w.heap.size]? =some (.cells #[.pointer (some ⟨ba,oa,none⟩),.pointer (some ⟨bb,ob,none⟩)] 100 (0,0))):=by
    refine ⟨by rw [← hs3];exact (HE2.out.1.setCell (p:=⟨X,0,none⟩) (by show w.heap.size≤X;omega) _).setCell (p:=⟨X,1,none⟩) (by show w.heap.size≤X;omega) _,?_⟩;rw [← hs3];exact (Below.heap_setCell _ _ _ _ (by show w.heap.size≠X;omega)).trans ((Below.heap_setCell _ _ _ _ (by show w.heap.size≠X;omega)).trans HE2.out.2)
   have HQ3:=hQz hs3;clear hs3;go_simp
   try rw [HQ3.out]
   clear HQ3 g0 g1 f0 f1;have HHx:=HHx3;have HHy:=HHy3;refine hK.out _ _ (HSS.out _ HE3.out) (fun hHeld=> ?_);clear hK K
   try simp only [Act.put,List.getElem_toArray,List.getElem_cons_succ,List.getElem_cons_zero,List.setIfInBounds_toArray,List.set_cons_zero,List.set_cons_succ]
   refine wpAnyH_ready (rs:=[17]) (by kernel_rfl) (by simp) ?_;refine AllReadyH.cons (o:=_) rfl (fun K hK=> ?_) AllReadyH.nil;obtain ⟨w4,hs4⟩:∃ w4,(w3.setCell ⟨Y,0,none⟩ (.string q1)).setCell ⟨Y,1,none⟩ (.string q2)=w4:=⟨_,rfl⟩;have g0:=cell_of_row _ _ 0 _ _ _ HHy.out;have g1:=cell_of_row _ _ 1 _ _ _ HHy.out;have f0:=q01 (j:=0) HHy.out;have f1:=q01 (j:=1) HHy.out;have HHy4:Hid (w4.heap[Y]? =some (.cells #[.string q1,.string q2] 83 (0,0))):=by show _=_;rw [← hs4];exact q06 HHy.out
   have HHx4:Hid (w4.heap[X]? =some (.cells #[.string s1,.string s2] 83 (0,0))):=by show _=_;rw [← hs4];exact (Below.heap_setCell _ _ _ _ (by show X≠Y;omega)).trans ((Below.heap_setCell _ _ _ _ (by show X≠Y;omega)).trans HHx.out)
   have HE4:Hid (Below w.heap.size w w4∧w4.heap[w.heap.size]? =some (.cells #[.pointer (some ⟨ba,oa,none⟩),.pointer (some ⟨bb,ob,none⟩)] 100 (0,0))):=by
    refine ⟨by rw [← hs4];exact (HE3.out.1.setCell (p:=⟨Y,0,none⟩) (by show w.heap.size≤Y;omega) _).setCell (p:=⟨Y,1,none⟩) (by show w.heap.size≤Y;omega) _,?_⟩;rw [← hs4];exact (Below.heap_setCell _ _ _ _ (by show w.heap.size≠Y;omega)).trans ((Below.heap_setCell _ _ _ _ (by show w.heap.size≠Y;omega)).trans HE3.out.2)
   have HQ4:=hQz hs4;clear hs4;go_simp
   try rw [HQ4.out]
   clear HQ4 g0 g1 f0 f1;refine hK.out _ _ (HSS.out _ HE4.out) (fun hHeld=> ?_);clear hK K
   try simp only [Act.put,List.getElem_toArray,List.getElem_cons_succ,List.getElem_cons_zero,List.setIfInBounds_toArray,List.set_cons_zero,List.set_cons_succ]
   refine wpAnyH_done (by kernel_rfl) ?_ _
   try simp only [Act.put,List.getElem_toArray,List.getElem_cons_succ,List.getElem_cons_zero,List.setIfInBounds_toArray,List.set_cons_zero,List.set_cons_succ]
   exact KEY _ _ _ ⟨HE4.out.1,HHx4.out,HHy4.out⟩
 refine AllReadyH.cons (o:=_) rfl (fun K hK=> ?_) AllReadyH.nil;obtain ⟨w1,hq1⟩:∃ w1,WD.alloc (.cells #[.string ⟨#[]⟩,.string ⟨#[]⟩] 83)=w1:=⟨_,rfl⟩;have hb1:Below WD.heap.size WD w1:=by rw [← hq1];exact q05 WD _
 have HE1:Hid (Below w.heap.size w w1∧w1.heap[w.heap.size]? =some (.cells #[.pointer (some ⟨ba,oa,none⟩),.pointer (some ⟨bb,ob,none⟩)] 100 (0,0))):=⟨HD.out.1.trans (hb1.mono HD.out.1.size),(hb1.block _ (q00 HD.out.2)).trans HD.out.2⟩;obtain ⟨Y,hB1⟩:∃ Y,WD.heap.size=Y:=⟨_,rfl⟩;have hY:w1.heap[Y]? =some (.cells #[.string ⟨#[]⟩,.string ⟨#[]⟩] 83 (0,0)):=by rw [← hq1,← hB1];exact World.alloc_heap_new WD _
 have hlY:w.heap.size<Y:=by rw [← hB1];exact q00 HD.out.2
 have HQ1:=hQz hq1;have HQB1:=hQz hB1;have HHy:=hQz hY;clear hq1 hB1 hb1 hY;go_simp
 try rw [HQ1.out]
 try rw [HQB1.out]
 clear HQ1 HQB1;refine hK.out _ _ (HSS.out _ HE1.out) (fun hHeld=> ?_);clear hK K
 try simp only [Act.put,List.getElem_toArray,List.getElem_cons_succ,List.getElem_cons_zero,List.setIfInBounds_toArray,List.set_cons_zero,List.set_cons_succ]
 refine wpAnyH_ready (rs:=[14]) (by kernel_rfl) (by simp) ?_;refine AllReadyH.cons (o:=_) rfl (fun K hK=> ?_) AllReadyH.nil;obtain ⟨w2,hq2⟩:∃ w2,w1.alloc (.cells #[.string ⟨#[]⟩,.string ⟨#[]⟩] 83)=w2:=⟨_,rfl⟩;have hb2:Below w1.heap.size w1 w2:=by rw [← hq2];exact q05 w1 _
 have HE2:Hid (Below w.heap.size w w2∧w2.heap[w.heap.size]? =some (.cells #[.pointer (some ⟨ba,oa,none⟩),.pointer (some ⟨bb,ob,none⟩)] 100 (0,0))):=⟨HE1.out.1.trans (hb2.mono HE1.out.1.size),(hb2.block _ (q00 HE1.out.2)).trans HE1.out.2⟩;obtain ⟨X,hB2⟩:∃ X,w1.heap.size=X:=⟨_,rfl⟩;have hX:w2.heap[X]? =some (.cells #[.string ⟨#[]⟩,.string ⟨#[]⟩] 83 (0,0)):=by rw [← hq2,← hB2];exact World.alloc_heap_new w1 _
 have hlX:w.heap.size<X:=by rw [← hB2];exact q00 HE1.out.2
 have hne:Y≠X:=by have:=q00 HHy.out;rw [← hB2];omega
 have HHy2:Hid (w2.heap[Y]? =_):=(hb2.block _ (q00 HHy.out)).trans HHy.out;have HQ2:=hQz hq2;have HQB2:=hQz hB2;have HHx:=hQz hX;clear hq2 hB2 hb2 hX;go_simp
 try rw [HQ2.out]
 try rw [HQB2.out]
 clear HQ2 HQB2;have HHy:=HHy2;refine hK.out _ _ (HSS.out _ HE2.out) (fun hHeld=> ?_);clear hK K
 try simp only [Act.put,List.getElem_toArray,List.getElem_cons_succ,List.getElem_cons_zero,List.setIfInBounds_toArray,List.set_cons_zero,List.set_cons_succ]
 refine wpAnyH_ready (rs:=[16]) (by kernel_rfl) (by simp) ?_;refine AllReadyH.cons (o:=_) rfl (fun K hK=> ?_) AllReadyH.nil;obtain ⟨w3,hs3⟩:∃ w3,(w2.setCell ⟨X,0,none⟩ (.string s1)).setCell ⟨X,1,none⟩ (.string s2)=w3:=⟨_,rfl⟩;have g0:=cell_of_row _ _ 0 _ _ _ HHx.out;have g1:=cell_of_row _ _ 1 _ _ _ HHx.out;have f0:=q01 (j:=0) HHx.out;have f1:=q01 (j:=1) HHx.out;have HHx3:Hid (w3.heap[X]? =some (.cells #[.string s1,.string s2] 83 (0,0))):=by show _=_;rw [← hs3];exact q06 HHx.out
 have HHy3:Hid (w3.heap[Y]? =some (.cells #[.string ⟨#[]⟩,.string ⟨#[]⟩] 83 (0,0))):=by show _=_;rw [← hs3];exact (Below.heap_setCell _ _ _ _ (by show Y≠X;omega)).trans ((Below.heap_setCell _ _ _ _ (by show Y≠X;omega)).trans HHy.out)
 have HE3:Hid (Below w.heap.size w w3∧w3.heap[w.heap.size]? =some (.cells #[.pointer (some ⟨ba,oa,none⟩),.pointer (some ⟨bb,ob,none⟩)] 100 (0,0))):=by
  refine ⟨by rw [← hs3];exact (HE2.out.1.setCell (p:=⟨X,0,none⟩) (by show w.heap.size≤X;omega) _).setCell (p:=⟨X,1,none⟩) (by show w.heap.size≤X;omega) _,?_⟩;rw [← hs3];exact (Below.heap_setCell _ _ _ _ (by show w.heap.size≠X;omega)).trans ((Below.heap_setCell _ _ _ _ (by show w.heap.size≠X;omega)).trans HE2.out.2)
 have HQ3:=hQz hs3;clear hs3;go_simp
 try rw [HQ3.out]
 clear HQ3 g0 g1 f0 f1;have HHx:=HHx3;have HHy:=HHy3;refine hK.out _ _ (HSS.out _ HE3.out) (fun hHeld=> ?_);clear hK K
 try simp only [Act.put,List.getElem_toArray,List.getElem_cons_succ,List.getElem_cons_zero,List.setIfInBounds_toArray,List.set_cons_zero,List.set_cons_succ]
 refine wpAnyH_ready (rs:=[17]) (by kernel_rfl) (by simp) ?_;refine AllReadyH.cons (o:=_) rfl (fun K hK=> ?_) AllReadyH.nil;obtain ⟨w4,hs4⟩:∃ w4,(w3.setCell ⟨Y,0,none⟩ (.string q1)).setCell ⟨Y,1,none⟩ (.string q2)=w4:=⟨_,rfl⟩;have g0:=cell_of_row _ _ 0 _ _ _ HHy.out;have g1:=cell_of_row _ _ 1 _ _ _ HHy.out;have f0:=q01 (j:=0) HHy.out;have f1:=q01 (j:=1) HHy.out;have HHy4:Hid (w4.heap[Y]? =some (.cells #[.string q1,.string q2] 83 (0,0))):=by show _=_;rw [← hs4];exact q06 HHy.out
 have HHx4:Hid (w4.heap[X]? =some (.cells #[.string s1,.string s2] 83 (0,0))):=by show _=_;rw [← hs4];exact (Below.heap_setCell _ _ _ _ (by show X≠Y;omega)).trans ((Below.heap_setCell _ _ _ _ (by show X≠Y;omega)).trans HHx.out)
 have HE4:Hid (Below w.heap.size w w4∧w4.heap[w.heap.size]? =some (.cells #[.pointer (some ⟨ba,oa,none⟩),.pointer (some ⟨bb,ob,none⟩)] 100 (0,0))):=by
  refine ⟨by rw [← hs4];exact (HE3.out.1.setCell (p:=⟨Y,0,none⟩) (by show w.heap.size≤Y;omega) _).setCell (p:=⟨Y,1,none⟩) (by show w.heap.size≤Y;omega) _,?_⟩;rw [← hs4];exact (Below.heap_setCell _ _ _ _ (by show w.heap.size≠Y;omega)).trans ((Below.heap_setCell _ _ _ _ (by show w.heap.size≠Y;omega)).trans HE3.out.2)
 have HQ4:=hQz hs4;clear hs4;go_simp
 try rw [HQ4.out]
 clear HQ4 g0 g1 f0 f1;refine hK.out _ _ (HSS.out _ HE4.out) (fun hHeld=> ?_);clear hK K
 try simp only [Act.put,List.getElem_toArray,List.getElem_cons_succ,List.getElem_cons_zero,List.setIfInBounds_toArray,List.set_cons_zero,List.set_cons_succ]
 refine wpAnyH_done (by kernel_rfl) ?_ _
 try simp only [Act.put,List.getElem_toArray,List.getElem_cons_succ,List.getElem_cons_zero,List.setIfInBounds_toArray,List.set_cons_zero,List.set_cons_succ]
 exact KEY _ _ _ ⟨HE4.out.1,HHx4.out,HHy4.out⟩
 case key=>
  intro X Y W ⟨hB,hX,hY⟩;have HB:=hQz hB;have HXr:=hQz hX;have HYr:=hQz hY;have c0:=cell_of_row _ _ 0 _ _ _ hX;have c1:=cell_of_row _ _ 1 _ _ _ hX;have d0:=cell_of_row _ _ 0 _ _ _ hY;have d1:=cell_of_row _ _ 1 _ _ _ hY;clear hB hX hY
  cases r1 with
  | true=>
   go_wp2_with fail;refine (HC1.out _).mono ?_;rintro e w5 ⟨rfl,hq⟩;have HB5:=hQz (HB.out.trans (hq.mono HB.out.size));clear hq;go_wp2_with fail;go_ret;exact ⟨by first|rfl|simp,HB5.out⟩
  | false=>
   go_wp2_with fail;refine (HC1.out _).mono ?_;rintro e w5 ⟨rfl,hq⟩;have HB5:=hQz (HB.out.trans (hq.mono HB.out.size));have hX5:=(hq.block _ (q00 HXr.out)).trans HXr.out;have hY5:=(hq.block _ (q00 HYr.out)).trans HYr.out;clear hq c0 c1 d0 d1;have c0:=cell_of_row _ _ 0 _ _ _ hX5;have c1:=cell_of_row _ _ 1 _ _ _ hX5;have d0:=cell_of_row _ _ 0 _ _ _ hY5;have d1:=cell_of_row _ _ 1 _ _ _ hY5;go_wp2_with fail;refine (HC2.out _).mono ?_;rintro e w6 ⟨rfl,hq⟩;have HB6:=hQz (HB5.out.trans (hq.mono HB5.out.size));clear hq;go_wp2_with fail;go_ret;exact ⟨by first|rfl|simp,HB6.out⟩
theorem w_tooLong (n m:Int) (w:World):Calls Tryz.prog 145 #[.int .i64 n,.int .i64 m] w fun e w'=>e= .returned (.bool (longI n m))∧w'=w:=by
 unfold longI;by_cases h1:0≤m
 · rw [decide_eq_true h1];by_cases h2:m<n
   · rw [decide_eq_true h2];go_enter Tryz.func145,Tryz.ntmps145;go_wp2_with fail;go_ret;exact ⟨rfl,rfl⟩
   · rw [decide_eq_false h2];go_enter Tryz.func145,Tryz.ntmps145;go_wp2_with fail;go_ret;exact ⟨rfl,rfl⟩
 · rw [decide_eq_false h1];go_enter Tryz.func145,Tryz.ntmps145;go_wp2_with fail;go_ret;exact ⟨by first|rfl|simp,rfl⟩
theorem arrs_met_both (ba oa bb ob:Nat) (w:World) (la:ba<w.heap.size) (lb:bb<w.heap.size) (sb so qb qo M ac N bc:Nat) (hM:0<M) (hN:0<N) (lsb:sb<w.heap.size) (lqb:qb<w.heap.size) (m1 n1 m2 n2:Int) (r:Bool) (X7:w.cell? ⟨ba,oa+7,none⟩=some (.slice (some ⟨sb,so,none⟩) M ac)) (Y7:w.cell? ⟨bb,ob+7,none⟩=some (.slice (some ⟨qb,qo,none⟩) N bc)) (X9:w.cell? ⟨sb,so+9,none⟩=some (.int .i64 m1)) (XA:w.cell? ⟨sb,so+10,none⟩=some (.int .i64 n1)) (Y9:w.cell? ⟨qb,qo+9,none⟩=some (.int .i64 m2)) (YA:w.cell? ⟨qb,qo+10,none⟩=some (.int .i64 n2))
 (HC:Hid (∀ u,Below w.heap.size w u→Calls Tryz.prog 20 #[.pointer (some ⟨sb,so,none⟩),.pointer (some ⟨qb,qo,none⟩)] u fun e w'=>e= .returned (.bool r)∧Below u.heap.size u w')):
 Calls Tryz.prog 117 #[.agg #[.pointer (some ⟨ba,oa,none⟩),.pointer (some ⟨bb,ob,none⟩)]] w fun e w'=>e= .returned (.bool (!(longI (max m1 m2) n1||longI (max m1 m2) n2)&&(decide (max m1 m2=0)||r)))∧Below w.heap.size w w':=by
 have hm1:((M:Int)==0)=false:=by simp;omega
 have hn1:((N:Int)==0)=false:=by simp;omega
 have hm3:(0:Int)<(M:Int):=by omega
 have hn3:(0:Int)<(N:Int):=by omega
 obtain ⟨L,hL⟩:∃ L,max m1 m2=L:=⟨_,rfl⟩;have HMX:=hQz hL;rw [hL];clear hL;obtain ⟨W0,hW0⟩:∃ W0,w.alloc (.cells #[.pointer (some ⟨ba,oa,none⟩),.pointer (some ⟨bb,ob,none⟩)] 100)=W0:=⟨_,rfl⟩;have HX:Hid (Bx2c w W0 w.heap.size (.pointer (some ⟨ba,oa,none⟩)) (.pointer (some ⟨bb,ob,none⟩))):=by rw [← hW0];exact q07 w _ _ _
 have H1:=hQz (w_tooLong L n1);have H2:=hQz (w_tooLong L n2);generalize longI L n1=l1 at H1 ⊢;generalize longI L n2=l2 at H2 ⊢
 cases l1 with
 | true=>
  have p0:=HX.out.c0;have p1:=HX.out.c1;have x7:=(HX.out.below.cell (p:=⟨_,_,_⟩) la).trans X7;have y7:=(HX.out.below.cell (p:=⟨_,_,_⟩) lb).trans Y7;have x9:=(HX.out.below.cell (p:=⟨_,_,_⟩) lsb).trans X9;have xa:=(HX.out.below.cell (p:=⟨_,_,_⟩) lsb).trans XA;have y9:=(HX.out.below.cell (p:=⟨_,_,_⟩) lqb).trans Y9;have ya:=(HX.out.below.cell (p:=⟨_,_,_⟩) lqb).trans YA;go_enter Tryz.func117,Tryz.ntmps117;go_upto_region 3 with fail;have Ap0:=fun d os=>cell_regrown p0 d os;have Ap1:=fun d os=>cell_regrown p1 d os;have Ax7:=fun d os=>cell_regrown x7 d os;have Ay7:=fun d os=>cell_regrown y7 d os;have Ax9:=fun d os=>cell_regrown x9 d os;have Axa:=fun d os=>cell_regrown xa d os;have Ay9:=fun d os=>cell_regrown y9 d os;have Aya:=fun d os=>cell_regrown ya d os;refine wp_region_quiet_below (by kernel_rfl) (by kernel_rfl) ?_
  repeat (go_big_quiet_step (fail))
  refine wpQuiet_nil ?_;intro w1 hw'
  have hbw9:Below W0.heap.size W0 w1:=by
   obtain ⟨⟨dq,osq⟩,rfl⟩:=hw';exact below_regrown W0 dq osq
  clear hw';have HX1:=hQz (HX.out.keep hbw9);clear hbw9 Ap0 Ap1 Ax7 Ay7 Ax9 Axa Ay9 Aya;clear p0 p1 x7 y7 x9 xa y9 ya;have p0:=HX1.out.c0;have p1:=HX1.out.c1;have x7:=(HX1.out.below.cell (p:=⟨_,_,_⟩) la).trans X7;have y7:=(HX1.out.below.cell (p:=⟨_,_,_⟩) lb).trans Y7;have x9:=(HX1.out.below.cell (p:=⟨_,_,_⟩) lsb).trans X9;have xa:=(HX1.out.below.cell (p:=⟨_,_,_⟩) lsb).trans XA;have y9:=(HX1.out.below.cell (p:=⟨_,_,_⟩) lqb).trans Y9;have ya:=(HX1.out.below.cell (p:=⟨_,_,_⟩) lqb).trans YA;go_upto_region 4 with fail;have Ap0:=fun d os=>cell_regrown p0 d os;have Ap1:=fun d os=>cell_regrown p1 d os;have Ax7:=fun d os=>cell_regrown x7 d os;have Ay7:=fun d os=>cell_regrown y7 d os;have Ax9:=fun d os=>cell_regrown x9 d os;have Axa:=fun d os=>cell_regrown xa d os;have Ay9:=fun d os=>cell_regrown y9 d os;have Aya:=fun d os=>cell_regrown ya d os;refine wp_region_quiet_below (by kernel_rfl) (by kernel_rfl) ?_
  repeat (go_big_quiet_step (fail))
  refine wpQuiet_nil ?_;intro w2 hw'
  have hbw9:Below w1.heap.size w1 w2:=by
   obtain ⟨⟨dq,osq⟩,rfl⟩:=hw';exact below_regrown w1 dq osq
  clear hw';have HX2:=hQz (HX1.out.keep hbw9);clear hbw9 Ap0 Ap1 Ax7 Ay7 Ax9 Axa Ay9 Aya;clear p0 p1 x7 y7 x9 xa y9 ya;have p0:=HX2.out.c0;have p1:=HX2.out.c1;have x7:=(HX2.out.below.cell (p:=⟨_,_,_⟩) la).trans X7;have y7:=(HX2.out.below.cell (p:=⟨_,_,_⟩) lb).trans Y7;have x9:=(HX2.out.below.cell (p:=⟨_,_,_⟩) lsb).trans X9;have xa:=(HX2.out.below.cell (p:=⟨_,_,_⟩) lsb).trans XA;have y9:=(HX2.out.below.cell (p:=⟨_,_,_⟩) lqb).trans Y9;have ya:=(HX2.out.below.cell (p:=⟨_,_,_⟩) lqb).trans YA
  try rw [HMX.out]
  go_wp2_with fail;refine (H1.out _).mono ?_;rintro e w3 ⟨rfl,hw⟩;rw [hw];clear hw;go_wp2_with fail;go_ret;exact ⟨by first|rfl|simp,HX2.out.below⟩
 | false=>
  cases l2 with
  | true=>
   have p0:=HX.out.c0;have p1:=HX.out.c1;have x7:=(HX.out.below.cell (p:=⟨_,_,_⟩) la).trans X7;have y7:=(HX.out.below.cell (p:=⟨_,_,_⟩) lb).trans Y7;have x9:=(HX.out.below.cell (p:=⟨_,_,_⟩) lsb).trans X9;have xa:=(HX.out.below.cell (p:=⟨_,_,_⟩) lsb).trans XA;have y9:=(HX.out.below.cell (p:=⟨_,_,_⟩) lqb).trans Y9;have ya:=(HX.out.below.cell (p:=⟨_,_,_⟩) lqb).trans YA;go_enter Tryz.func117,Tryz.ntmps117;go_upto_region 3 with fail;have Ap0:=fun d os=>cell_regrown p0 d os;have Ap1:=fun d os=>cell_regrown p1 d os;have Ax7:=fun d os=>cell_regrown x7 d os;have Ay7:=fun d os=>cell_regrown y7 d os;have Ax9:=fun d os=>cell_regrown x9 d os;have Axa:=fun d os=>cell_regrown xa d os;have Ay9:=fun d os=>cell_regrown y9 d os;have Aya:=fun d os=>cell_regrown ya d os;refine wp_region_quiet_below (by kernel_rfl) (by kernel_rfl) ?_
   repeat (go_big_quiet_step (fail))
   refine wpQuiet_nil ?_;intro w1 hw'
   have hbw9:Below W0.heap.size W0 w1:=by
    obtain ⟨⟨dq,osq⟩,rfl⟩:=hw';exact below_regrown W0 dq osq
   clear hw';have HX1:=hQz (HX.out.keep hbw9);clear hbw9 Ap0 Ap1 Ax7 Ay7 Ax9 Axa Ay9 Aya;clear p0 p1 x7 y7 x9 xa y9 ya;have p0:=HX1.out.c0;have p1:=HX1.out.c1;have x7:=(HX1.out.below.cell (p:=⟨_,_,_⟩) la).trans X7;have y7:=(HX1.out.below.cell (p:=⟨_,_,_⟩) lb).trans Y7;have x9:=(HX1.out.below.cell (p:=⟨_,_,_⟩) lsb).trans X9;have xa:=(HX1.out.below.cell (p:=⟨_,_,_⟩) lsb).trans XA;have y9:=(HX1.out.below.cell (p:=⟨_,_,_⟩) lqb).trans Y9;have ya:=(HX1.out.below.cell (p:=⟨_,_,_⟩) lqb).trans YA;go_upto_region 4 with fail;have Ap0:=fun d os=>cell_regrown p0 d os;have Ap1:=fun d os=>cell_regrown p1 d os;have Ax7:=fun d os=>cell_regrown x7 d os;have Ay7:=fun d os=>cell_regrown y7 d os;have Ax9:=fun d os=>cell_regrown x9 d os;have Axa:=fun d os=>cell_regrown xa d os;have Ay9:=fun d os=>cell_regrown y9 d os;have Aya:=fun d os=>cell_regrown ya d os;refine wp_region_quiet_below (by kernel_rfl) (by kernel_rfl) ?_
   repeat (go_big_quiet_step (fail))
   refine wpQuiet_nil ?_;intro w2 hw'
   have hbw9:Below w1.heap.size w1 w2:=by
    obtain ⟨⟨dq,osq⟩,rfl⟩:=hw';exact below_regrown w1 dq osq
   clear hw';have HX2:=hQz (HX1.out.keep hbw9);clear hbw9 Ap0 Ap1 Ax7 Ay7 Ax9 Axa Ay9 Aya;clear p0 p1 x7 y7 x9 xa y9 ya;have p0:=HX2.out.c0;have p1:=HX2.out.c1;have x7:=(HX2.out.below.cell (p:=⟨_,_,_⟩) la).trans X7;have y7:=(HX2.out.below.cell (p:=⟨_,_,_⟩) lb).trans Y7;have x9:=(HX2.out.below.cell (p:=⟨_,_,_⟩) lsb).trans X9;have xa:=(HX2.out.below.cell (p:=⟨_,_,_⟩) lsb).trans XA;have y9:=(HX2.out.below.cell (p:=⟨_,_,_⟩) lqb).trans Y9;have ya:=(HX2.out.below.cell (p:=⟨_,_,_⟩) lqb).trans YA
   try rw [HMX.out]
   go_wp2_with fail;refine (H1.out _).mono ?_;rintro e w3 ⟨rfl,hw⟩;rw [hw];clear hw;go_wp2_with fail;refine (H2.out _).mono ?_;rintro e w4 ⟨rfl,hw⟩;rw [hw];clear hw;go_wp2_with fail;go_ret;exact ⟨by first|rfl|simp,HX2.out.below⟩
  | false=>
   by_cases he:L=0
   · have e:decide (L=0)=true:=decide_eq_true he;have e':(L==0)=true:=by simpa using he
     rw [e];clear he e;have p0:=HX.out.c0;have p1:=HX.out.c1;have x7:=(HX.out.below.cell (p:=⟨_,_,_⟩) la).trans X7;have y7:=(HX.out.below.cell (p:=⟨_,_,_⟩) lb).trans Y7;have x9:=(HX.out.below.cell (p:=⟨_,_,_⟩) lsb).trans X9;have xa:=(HX.out.below.cell (p:=⟨_,_,_⟩) lsb).trans XA;have y9:=(HX.out.below.cell (p:=⟨_,_,_⟩) lqb).trans Y9;have ya:=(HX.out.below.cell (p:=⟨_,_,_⟩) lqb).trans YA;go_enter Tryz.func117,Tryz.ntmps117;go_upto_region 3 with fail;have Ap0:=fun d os=>cell_regrown p0 d os;have Ap1:=fun d os=>cell_regrown p1 d os;have Ax7:=fun d os=>cell_regrown x7 d os;have Ay7:=fun d os=>cell_regrown y7 d os;have Ax9:=fun d os=>cell_regrown x9 d os;have Axa:=fun d os=>cell_regrown xa d os;have Ay9:=fun d os=>cell_regrown y9 d os;have Aya:=fun d os=>cell_regrown ya d os;refine wp_region_quiet_below (by kernel_rfl) (by kernel_rfl) ?_
     repeat (go_big_quiet_step (fail))
     refine wpQuiet_nil ?_;intro w1 hw'
     have hbw9:Below W0.heap.size W0 w1:=by
      obtain ⟨⟨dq,osq⟩,rfl⟩:=hw';exact below_regrown W0 dq osq
     clear hw';have HX1:=hQz (HX.out.keep hbw9);clear hbw9 Ap0 Ap1 Ax7 Ay7 Ax9 Axa Ay9 Aya;clear p0 p1 x7 y7 x9 xa y9 ya;have p0:=HX1.out.c0;have p1:=HX1.out.c1;have x7:=(HX1.out.below.cell (p:=⟨_,_,_⟩) la).trans X7;have y7:=(HX1.out.below.cell (p:=⟨_,_,_⟩) lb).trans Y7;have x9:=(HX1.out.below.cell (p:=⟨_,_,_⟩) lsb).trans X9;have xa:=(HX1.out.below.cell (p:=⟨_,_,_⟩) lsb).trans XA;have y9:=(HX1.out.below.cell (p:=⟨_,_,_⟩) lqb).trans Y9;have ya:=(HX1.out.below.cell (p:=⟨_,_,_⟩) lqb).trans YA;go_upto_region 4 with fail;have Ap0:=fun d os=>cell_regrown p0 d os;have Ap1:=fun d os=>cell_regrown p1 d os;have Ax7:=fun d os=>cell_regrown x7 d os;have Ay7:=fun d os=>cell_regrown y7 d os;have Ax9:=fun d os=>cell_regrown x9 d os;have Axa:=fun d os=>cell_regrown xa d os;have Ay9:=fun d os=>cell_regrown y9 d os;have Aya:=fun d os=>cell_regrown ya d os;refine wp_region_quiet_below (by kernel_rfl) (by kernel_rfl) ?_
     repeat (go_big_quiet_step (fail))
     refine wpQuiet_nil ?_;intro w2 hw'
     have hbw9:Below w1.heap.size w1 w2:=by
      obtain ⟨⟨dq,osq⟩,rfl⟩:=hw';exact below_regrown w1 dq osq
     clear hw';have HX2:=hQz (HX1.out.keep hbw9);clear hbw9 Ap0 Ap1 Ax7 Ay7 Ax9 Axa Ay9 Aya;clear p0 p1 x7 y7 x9 xa y9 ya;have p0:=HX2.out.c0;have p1:=HX2.out.c1;have x7:=(HX2.out.below.cell (p:=⟨_,_,_⟩) la).trans X7;have y7:=(HX2.out.below.cell (p:=⟨_,_,_⟩) lb).trans Y7;have x9:=(HX2.out.below.cell (p:=⟨_,_,_⟩) lsb).trans X9;have xa:=(HX2.out.below.cell (p:=⟨_,_,_⟩) lsb).trans XA;have y9:=(HX2.out.below.cell (p:=⟨_,_,_⟩) lqb).trans Y9;have ya:=(HX2.out.below.cell (p:=⟨_,_,_⟩) lqb).trans YA
     try rw [HMX.out]
     go_wp2_with fail;refine (H1.out _).mono ?_;rintro e w3 ⟨rfl,hw⟩;rw [hw];clear hw;go_wp2_with fail;refine (H2.out _).mono ?_;rintro e w4 ⟨rfl,hw⟩;rw [hw];clear hw;go_upto_region 7 with fail;have Ap0:=fun d os=>cell_regrown p0 d os;have Ap1:=fun d os=>cell_regrown p1 d os;have Ax7:=fun d os=>cell_regrown x7 d os;have Ay7:=fun d os=>cell_regrown y7 d os;have Ax9:=fun d os=>cell_regrown x9 d os;have Axa:=fun d os=>cell_regrown xa d os;have Ay9:=fun d os=>cell_regrown y9 d os;have Aya:=fun d os=>cell_regrown ya d os;refine wp_region_quiet_below (by kernel_rfl) (by kernel_rfl) ?_
     repeat (go_big_quiet_step (fail))
     refine wpQuiet_nil ?_;intro w5 hw'
     have hbw9:Below w2.heap.size w2 w5:=by
      obtain ⟨⟨dq,osq⟩,rfl⟩:=hw';exact below_regrown w2 dq osq
     clear hw';have HX5:=hQz (HX2.out.keep hbw9);clear hbw9 Ap0 Ap1 Ax7 Ay7 Ax9 Axa Ay9 Aya;clear p0 p1 x7 y7 x9 xa y9 ya;go_wp2_with fail;go_ret;exact ⟨by first|rfl|simp,HX5.out.below⟩
   · have e:decide (L=0)=false:=decide_eq_false he;have e':(L==0)=false:=by simpa using he
     rw [e];clear he e;have p0:=HX.out.c0;have p1:=HX.out.c1;have x7:=(HX.out.below.cell (p:=⟨_,_,_⟩) la).trans X7;have y7:=(HX.out.below.cell (p:=⟨_,_,_⟩) lb).trans Y7;have x9:=(HX.out.below.cell (p:=⟨_,_,_⟩) lsb).trans X9;have xa:=(HX.out.below.cell (p:=⟨_,_,_⟩) lsb).trans XA;have y9:=(HX.out.below.cell (p:=⟨_,_,_⟩) lqb).trans Y9;have ya:=(HX.out.below.cell (p:=⟨_,_,_⟩) lqb).trans YA;go_enter Tryz.func117,Tryz.ntmps117;go_upto_region 3 with fail;have Ap0:=fun d os=>cell_regrown p0 d os;have Ap1:=fun d os=>cell_regrown p1 d os;have Ax7:=fun d os=>cell_regrown x7 d os;have Ay7:=fun d os=>cell_regrown y7 d os;have Ax9:=fun d os=>cell_regrown x9 d os;have Axa:=fun d os=>cell_regrown xa d os;have Ay9:=fun d os=>cell_regrown y9 d os;have Aya:=fun d os=>cell_regrown ya d os;refine wp_region_quiet_below (by kernel_rfl) (by kernel_rfl) ?_
     repeat (go_big_quiet_step (fail))
     refine wpQuiet_nil ?_;intro w1 hw'
     have hbw9:Below W0.heap.size W0 w1:=by
      obtain ⟨⟨dq,osq⟩,rfl⟩:=hw';exact below_regrown W0 dq osq
     clear hw';have HX1:=hQz (HX.out.keep hbw9);clear hbw9 Ap0 Ap1 Ax7 Ay7 Ax9 Axa Ay9 Aya;clear p0 p1 x7 y7 x9 xa y9 ya;have p0:=HX1.out.c0;have p1:=HX1.out.c1;have x7:=(HX1.out.below.cell (p:=⟨_,_,_⟩) la).trans X7;have y7:=(HX1.out.below.cell (p:=⟨_,_,_⟩) lb).trans Y7;have x9:=(HX1.out.below.cell (p:=⟨_,_,_⟩) lsb).trans X9;have xa:=(HX1.out.below.cell (p:=⟨_,_,_⟩) lsb).trans XA;have y9:=(HX1.out.below.cell (p:=⟨_,_,_⟩) lqb).trans Y9;have ya:=(HX1.out.below.cell (p:=⟨_,_,_⟩) lqb).trans YA;go_upto_region 4 with fail;have Ap0:=fun d os=>cell_regrown p0 d os;have Ap1:=fun d os=>cell_regrown p1 d os;have Ax7:=fun d os=>cell_regrown x7 d os;have Ay7:=fun d os=>cell_regrown y7 d os;have Ax9:=fun d os=>cell_regrown x9 d os;have Axa:=fun d os=>cell_regrown xa d os;have Ay9:=fun d os=>cell_regrown y9 d os;have Aya:=fun d os=>cell_regrown ya d os;refine wp_region_quiet_below (by kernel_rfl) (by kernel_rfl) ?_
     repeat (go_big_quiet_step (fail))
     refine wpQuiet_nil ?_;intro w2 hw'
     have hbw9:Below w1.heap.size w1 w2:=by
      obtain ⟨⟨dq,osq⟩,rfl⟩:=hw';exact below_regrown w1 dq osq
     clear hw';have HX2:=hQz (HX1.out.keep hbw9);clear hbw9 Ap0 Ap1 Ax7 Ay7 Ax9 Axa Ay9 Aya;clear p0 p1 x7 y7 x9 xa y9 ya;have p0:=HX2.out.c0;have p1:=HX2.out.c1;have x7:=(HX2.out.below.cell (p:=⟨_,_,_⟩) la).trans X7;have y7:=(HX2.out.below.cell (p:=⟨_,_,_⟩) lb).trans Y7;have x9:=(HX2.out.below.cell (p:=⟨_,_,_⟩) lsb).trans X9;have xa:=(HX2.out.below.cell (p:=⟨_,_,_⟩) lsb).trans XA;have y9:=(HX2.out.below.cell (p:=⟨_,_,_⟩) lqb).trans Y9;have ya:=(HX2.out.below.cell (p:=⟨_,_,_⟩) lqb).trans YA
     try rw [HMX.out]
     go_wp2_with fail;refine (H1.out _).mono ?_;rintro e w3 ⟨rfl,hw⟩;rw [hw];clear hw;go_wp2_with fail;refine (H2.out _).mono ?_;rintro e w4 ⟨rfl,hw⟩;rw [hw];clear hw;have HCC:=hQz (fun (d:Nat) (os:Array Obj)=>HC.out (grow (redrawn w2 d) os) (HX2.out.below.trans ((below_regrown w2 d os).mono HX2.out.below.size)));go_upto_region 7 with fail;have Ap0:=fun d os=>cell_regrown p0 d os;have Ap1:=fun d os=>cell_regrown p1 d os;have Ax7:=fun d os=>cell_regrown x7 d os;have Ay7:=fun d os=>cell_regrown y7 d os;have Ax9:=fun d os=>cell_regrown x9 d os;have Axa:=fun d os=>cell_regrown xa d os;have Ay9:=fun d os=>cell_regrown y9 d os;have Aya:=fun d os=>cell_regrown ya d os;refine wp_region_quiet_below (by kernel_rfl) (by kernel_rfl) ?_
     repeat (go_big_quiet_step (exact Calls.regrown_of (HCC.out _ _)))
     refine wpQuiet_nil ?_;intro w5 hw'
     have hbw9:Below w2.heap.size w2 w5:=by
      obtain ⟨⟨dq,osq⟩,rfl⟩:=hw';exact below_regrown w2 dq osq
     clear hw';have HX5:=hQz (HX2.out.keep hbw9);clear hbw9 Ap0 Ap1 Ax7 Ay7 Ax9 Axa Ay9 Aya;clear p0 p1 x7 y7 x9 xa y9 ya;go_wp2_with fail;go_ret;exact ⟨by first|rfl|simp,HX5.out.below⟩
theorem any_all {f:ByteArray→Bool} (xs:List ByteArray):(!(List.range xs.length).any fun k=> !f (xs.getD k .empty))=xs.all f:=by
 rw [Bool.eq_iff_iff,Bool.not_eq_true',List.any_eq_false,List.all_eq_true];constructor
 · intro h x hx;obtain ⟨k,hk,rfl⟩:=List.getElem_of_mem hx;have:=h k (List.mem_range.2 hk);rw [List.getD_eq_getElem?_getD,List.getElem?_eq_getElem hk,Option.getD_some] at this;simpa using this
 · intro h k hk;have hk':=List.mem_range.1 hk;rw [List.getD_eq_getElem?_getD,List.getElem?_eq_getElem hk',Option.getD_some,h _ (List.getElem_mem hk')];simp
theorem any_any {f:ByteArray→Bool} (xs:List ByteArray):((List.range xs.length).any fun k=>f (xs.getD k .empty))=xs.any f:=by
 rw [Bool.eq_iff_iff,List.any_eq_true,List.any_eq_true];constructor
 · rintro ⟨k,hk,h⟩;have hk':=List.mem_range.1 hk;rw [List.getD_eq_getElem?_getD,List.getElem?_eq_getElem hk',Option.getD_some] at h;exact ⟨_,List.getElem_mem hk',h⟩
 · rintro ⟨x,hx,h⟩;obtain ⟨k,hk,rfl⟩:=List.getElem_of_mem hx;exact ⟨k,List.mem_range.2 hk,by rw [List.getD_eq_getElem?_getD,List.getElem?_eq_getElem hk,Option.getD_some];exact h⟩
theorem texts_lie1 (B bb ob:Nat) (yo:Option Addr) (N yc:Nat) (s:ByteArray) (r:Bool) (w:World) (p1:w.cell? ⟨B,1,none⟩=some (.pointer (some ⟨bb,ob,none⟩))) (y6:w.cell? ⟨bb,ob+6,none⟩=some (.slice yo N yc))
 (HC:Hid (Calls Tryz.prog 135 #[.string s,.slice yo N yc] w fun e w'=>e= .returned (.bool r)∧w'=w)):Calls Tryz.prog 134 #[.string s,.pointer (some ⟨B,0,none⟩)] w fun e w'=>e= .returned (.bool (!r))∧w'=w:=by
 go_enter Tryz.func134,Tryz.ntmps134;go_wp2_with fail;refine HC.out.mono ?_;rintro e w2 ⟨rfl,rfl⟩;go_wp2_with fail;go_ret;exact ⟨rfl,rfl⟩
theorem texts_met1 (B bb ob:Nat) (yo:Option Addr) (N yc:Nat) (s:ByteArray) (r:Bool) (w:World) (p1:w.cell? ⟨B,1,none⟩=some (.pointer (some ⟨bb,ob,none⟩))) (y6:w.cell? ⟨bb,ob+6,none⟩=some (.slice yo N yc))
 (HC:Hid (Calls Tryz.prog 135 #[.string s,.slice yo N yc] w fun e w'=>e= .returned (.bool r)∧w'=w)):Calls Tryz.prog 144 #[.string s,.pointer (some ⟨B,0,none⟩)] w fun e w'=>e= .returned (.bool (r))∧w'=w:=by
 go_enter Tryz.func144,Tryz.ntmps144;go_wp2_with fail;refine HC.out.mono ?_;rintro e w2 ⟨rfl,rfl⟩;go_wp2_with fail;go_ret;exact ⟨rfl,rfl⟩
theorem texts_lie (ba oa bb ob:Nat) (w:World) (la:ba<w.heap.size) (lb:bb<w.heap.size) (an bn:Bool) (xo:Option Addr) (M xc:Nat) (yo:Option Addr) (N yc:Nat) (xs ys:List ByteArray)  (X5:w.cell? ⟨ba,oa+5,none⟩=some (.bool an)) (X6:w.cell? ⟨ba,oa+6,none⟩=some (.slice xo M xc)) (Y5:w.cell? ⟨bb,ob+5,none⟩=some (.bool bn)) (Y6:w.cell? ⟨bb,ob+6,none⟩=some (.slice yo N yc)) (hx:KIn w xo xs) (hy:KIn w yo ys) (hM:xs.length=M) (hN:ys.length=N) (cM:M≤xc) (cN:N≤yc) (lM:M≤140737488355328) (lN:N≤140737488355328) (hr:rK ys ys.length=true):Calls Tryz.prog 110 #[.agg #[.pointer (some ⟨ba,oa,none⟩),.pointer (some ⟨bb,ob,none⟩)]] w fun e w'=>e= .returned (.bool (bn||(!an&&xs.all fun s=>hasK ys s)))∧Below w.heap.size w w':=by
 have HA:Hid (∀ u,Bx2c w u w.heap.size (.pointer (some ⟨ba,oa,none⟩)) (.pointer (some ⟨bb,ob,none⟩))→Calls Tryz.prog 136 #[.slice xo M xc,.func (.func 134) #[] #[.pointer (some ⟨w.heap.size,0,none⟩)]] u fun e w'=>e= .returned (.bool ((List.range M).any fun k=> !hasK ys (xs.getD k .empty)))∧Below u.heap.size u w'):=fun u hu=>
  has_txl xo M xc (fun k=> .string (xs.getD k .empty)) (fun k=> !hasK ys (xs.getD k .empty)) w.heap.size u cM lM
   (hQz fun u2 hu2 h0=>by
    obtain ⟨b,off,e,hl,hc⟩:=((hx.keep hu.below).keep hu2).row (by omega);exact ⟨b,off,e,fun k hk=>hc k (by omega)⟩)
   (hQz fun k hk u2 hu2=>by
    have hx2:=hu.keep hu2;have y6:=(hx2.below.cell (p:=⟨_,_,_⟩) lb).trans Y6;exact (texts_lie1 w.heap.size bb ob yo N yc _ _ u2 hx2.c1 y6 (hQz (w_among yo N yc ys _ u2 (hy.keep hx2.below) hN cN lN hr))).mono fun e w' ⟨he,hw⟩=>⟨he,by rw [hw];exact Below.refl _ _⟩)
   (hQz fun k hk=>⟨_,rfl⟩)
 have HM:Hid ((!(List.range M).any fun k=> !hasK ys (xs.getD k .empty))=xs.all fun s=>hasK ys s):=by rw [← hM];exact any_all xs
 generalize ((List.range M).any fun k=> !hasK ys (xs.getD k .empty))=R at HA HM;generalize (xs.all fun s=>hasK ys s)=R2 at HM ⊢;obtain rfl:=HM.out;clear hx hy hM hN hr HM;obtain ⟨W0,hW0⟩:∃ W0,w.alloc (.cells #[.pointer (some ⟨ba,oa,none⟩),.pointer (some ⟨bb,ob,none⟩)] 100)=W0:=⟨_,rfl⟩;have HX:Hid (Bx2c w W0 w.heap.size (.pointer (some ⟨ba,oa,none⟩)) (.pointer (some ⟨bb,ob,none⟩))):=by rw [← hW0];exact q07 w _ _ _
 cases bn with
 | true=>
  have p0:=HX.out.c0;have p1:=HX.out.c1;have x5:=(HX.out.below.cell (p:=⟨_,_,_⟩) la).trans X5;have x6:=(HX.out.below.cell (p:=⟨_,_,_⟩) la).trans X6;have y5:=(HX.out.below.cell (p:=⟨_,_,_⟩) lb).trans Y5;have y6:=(HX.out.below.cell (p:=⟨_,_,_⟩) lb).trans Y6;go_enter Tryz.func110,Tryz.ntmps110;go_wp2_with fail;go_ret;exact ⟨rfl,HX.out.below⟩
 | false=>
  cases an with
  | true=>
   have p0:=HX.out.c0;have p1:=HX.out.c1;have x5:=(HX.out.below.cell (p:=⟨_,_,_⟩) la).trans X5;have x6:=(HX.out.below.cell (p:=⟨_,_,_⟩) la).trans X6;have y5:=(HX.out.below.cell (p:=⟨_,_,_⟩) lb).trans Y5;have y6:=(HX.out.below.cell (p:=⟨_,_,_⟩) lb).trans Y6;go_enter Tryz.func110,Tryz.ntmps110;go_wp2_with fail;go_ret;exact ⟨rfl,HX.out.below⟩
  | false=>
   have p0:=HX.out.c0;have p1:=HX.out.c1;have x5:=(HX.out.below.cell (p:=⟨_,_,_⟩) la).trans X5;have x6:=(HX.out.below.cell (p:=⟨_,_,_⟩) la).trans X6;have y5:=(HX.out.below.cell (p:=⟨_,_,_⟩) lb).trans Y5;have y6:=(HX.out.below.cell (p:=⟨_,_,_⟩) lb).trans Y6;go_enter Tryz.func110,Tryz.ntmps110;go_wp2_with fail;refine (HA.out _ HX.out).mono ?_;rintro e w2 ⟨rfl,hq⟩;have HX2:=hQz (HX.out.keep hq);clear hq;go_wp2_with fail;go_ret;exact ⟨rfl,HX2.out.below⟩
theorem texts_met (ba oa bb ob:Nat) (w:World) (la:ba<w.heap.size) (lb:bb<w.heap.size) (an bn:Bool) (xo:Option Addr) (M xc:Nat) (yo:Option Addr) (N yc:Nat) (xs ys:List ByteArray)  (X5:w.cell? ⟨ba,oa+5,none⟩=some (.bool an)) (X6:w.cell? ⟨ba,oa+6,none⟩=some (.slice xo M xc)) (Y5:w.cell? ⟨bb,ob+5,none⟩=some (.bool bn)) (Y6:w.cell? ⟨bb,ob+6,none⟩=some (.slice yo N yc)) (hx:KIn w xo xs) (hy:KIn w yo ys) (hM:xs.length=M) (hN:ys.length=N) (cM:M≤xc) (cN:N≤yc) (lM:M≤140737488355328) (lN:N≤140737488355328) (hr:rK ys ys.length=true):Calls Tryz.prog 116 #[.agg #[.pointer (some ⟨ba,oa,none⟩),.pointer (some ⟨bb,ob,none⟩)]] w fun e w'=>e= .returned (.bool (if an then bn||decide (0<N) else if bn then decide (0<M) else xs.any fun s=>hasK ys s))∧Below w.heap.size w w':=by
 have HA:Hid (∀ u,Bx2c w u w.heap.size (.pointer (some ⟨ba,oa,none⟩)) (.pointer (some ⟨bb,ob,none⟩))→Calls Tryz.prog 136 #[.slice xo M xc,.func (.func 144) #[] #[.pointer (some ⟨w.heap.size,0,none⟩)]] u fun e w'=>e= .returned (.bool ((List.range M).any fun k=>hasK ys (xs.getD k .empty)))∧Below u.heap.size u w'):=fun u hu=>
  has_txm xo M xc (fun k=> .string (xs.getD k .empty)) (fun k=>hasK ys (xs.getD k .empty)) w.heap.size u cM lM
   (hQz fun u2 hu2 h0=>by
    obtain ⟨b,off,e,hl,hc⟩:=((hx.keep hu.below).keep hu2).row (by omega);exact ⟨b,off,e,fun k hk=>hc k (by omega)⟩)
   (hQz fun k hk u2 hu2=>by
    have hx2:=hu.keep hu2;have y6:=(hx2.below.cell (p:=⟨_,_,_⟩) lb).trans Y6;exact (texts_met1 w.heap.size bb ob yo N yc _ _ u2 hx2.c1 y6 (hQz (w_among yo N yc ys _ u2 (hy.keep hx2.below) hN cN lN hr))).mono fun e w' ⟨he,hw⟩=>⟨he,by rw [hw];exact Below.refl _ _⟩)
   (hQz fun k hk=>⟨_,rfl⟩)
 have HM:Hid (((List.range M).any fun k=>hasK ys (xs.getD k .empty))=xs.any fun s=>hasK ys s):=by rw [← hM];exact any_any xs
 generalize ((List.range M).any fun k=>hasK ys (xs.getD k .empty))=R at HA HM;generalize (xs.any fun s=>hasK ys s)=R2 at HM ⊢;obtain rfl:=HM.out;clear hx hy hM hN hr HM;obtain ⟨W0,hW0⟩:∃ W0,w.alloc (.cells #[.pointer (some ⟨ba,oa,none⟩),.pointer (some ⟨bb,ob,none⟩)] 100)=W0:=⟨_,rfl⟩;have HX:Hid (Bx2c w W0 w.heap.size (.pointer (some ⟨ba,oa,none⟩)) (.pointer (some ⟨bb,ob,none⟩))):=by rw [← hW0];exact q07 w _ _ _
 cases an with
 | true=>
  cases bn with
  | true=>
   have p0:=HX.out.c0;have p1:=HX.out.c1;have x5:=(HX.out.below.cell (p:=⟨_,_,_⟩) la).trans X5;have x6:=(HX.out.below.cell (p:=⟨_,_,_⟩) la).trans X6;have y5:=(HX.out.below.cell (p:=⟨_,_,_⟩) lb).trans Y5;have y6:=(HX.out.below.cell (p:=⟨_,_,_⟩) lb).trans Y6;go_enter Tryz.func116,Tryz.ntmps116;go_wp2_with fail;go_ret;exact ⟨rfl,HX.out.below⟩
  | false=>
   have p0:=HX.out.c0;have p1:=HX.out.c1;have x5:=(HX.out.below.cell (p:=⟨_,_,_⟩) la).trans X5;have x6:=(HX.out.below.cell (p:=⟨_,_,_⟩) la).trans X6;have y5:=(HX.out.below.cell (p:=⟨_,_,_⟩) lb).trans Y5;have y6:=(HX.out.below.cell (p:=⟨_,_,_⟩) lb).trans Y6;go_enter Tryz.func116,Tryz.ntmps116;go_wp2_with fail;go_ret;exact ⟨by first|rfl|simp,HX.out.below⟩
 | false=>
  cases bn with
  | true=>
   have p0:=HX.out.c0;have p1:=HX.out.c1;have x5:=(HX.out.below.cell (p:=⟨_,_,_⟩) la).trans X5;have x6:=(HX.out.below.cell (p:=⟨_,_,_⟩) la).trans X6;have y5:=(HX.out.below.cell (p:=⟨_,_,_⟩) lb).trans Y5;have y6:=(HX.out.below.cell (p:=⟨_,_,_⟩) lb).trans Y6;go_enter Tryz.func116,Tryz.ntmps116;go_wp2_with fail;go_ret;exact ⟨by first|rfl|simp,HX.out.below⟩
  | false=>
   have p0:=HX.out.c0;have p1:=HX.out.c1;have x5:=(HX.out.below.cell (p:=⟨_,_,_⟩) la).trans X5;have x6:=(HX.out.below.cell (p:=⟨_,_,_⟩) la).trans X6;have y5:=(HX.out.below.cell (p:=⟨_,_,_⟩) lb).trans Y5;have y6:=(HX.out.below.cell (p:=⟨_,_,_⟩) lb).trans Y6;go_enter Tryz.func116,Tryz.ntmps116;go_wp2_with fail;refine (HA.out _ HX.out).mono ?_;rintro e w2 ⟨rfl,hq⟩;have HX2:=hQz (HX.out.keep hq);clear hq;go_wp2_with fail;go_ret;exact ⟨rfl,HX2.out.below⟩
theorem bnd_bd (s:ByteArray):bndB s=bdB s:=by
 unfold bndB bdB
 congr 1
 rw [Lib.toList_data,Bool.eq_iff_iff,List.isEmpty_iff,beq_iff_eq];constructor
 · intro h;exact List.eq_nil_of_length_eq_zero (by rw [Array.length_toList];exact h)
 · intro h;have:=congrArg List.length h;rw [Array.length_toList] at this;exact this
theorem sp_one {l:List (ByteArray × ByteArray)} (h:spB l=true):l=[]∨∃ p,l=[p]∧bdB p.1=true∧bdB p.2=true:=by
 match l,h with
 | [],_=>exact .inl rfl
 | [p],h=>
  have h':spOk p=true:=h;unfold spOk at h';rw [Bool.and_eq_true,Bool.and_eq_true] at h';exact .inr ⟨p,rfl,by rw [← bnd_bd];exact h'.1,by rw [← bnd_bd];exact h'.2.1⟩
theorem ar_one {f:TT→Bool} {l:List AR} (h:arB f l=true):l=[]∨∃ a,l=[a]∧f a.item=true:=by
 match l,h with
 | [],_=>exact .inl rfl
 | [a],h=>
  have h':arOk f a=true:=h;unfold arOk at h';rw [Bool.and_eq_true,Bool.and_eq_true] at h';exact .inr ⟨a,rfl,h'.2.1⟩
section
variable (h:Nat) (A B:TT) (ba oa bb ob:Nat) (no:Option Addr) (nc:Nat) (xo:Option Addr) (xc:Nat) (ao:Option Addr) (ac:Nat) (oo:Option Addr) (oc:Nat) (no2:Option Addr) (nc2:Nat) (xo2:Option Addr) (xc2:Nat) (ao2:Option Addr) (ac2:Nat) (oo2:Option Addr) (oc2:Nat) (w:World)
 (hA:OpT w h A ba oa no nc xo xc ao ac oo oc) (hB:OpT w h B bb ob no2 nc2 xo2 xc2 ao2 ac2 oo2 oc2)
include hA hB
theorem w_flagsLie:Calls Tryz.prog 108 #[.agg #[.pointer (some ⟨ba,oa,none⟩),.pointer (some ⟨bb,ob,none⟩)]] w fun e w'=>e= .returned (.bool (flL A B))∧Below w.heap.size w w':=
 flags_lie ba oa bb ob w hA.lt hB.lt _ _ _ _ _ _ hA.d1 hA.d2 hA.d3 hB.d1 hB.d2 hB.d3
theorem w_numsLie (fa:spB A.nums=true) (fb:spB B.nums=true):Calls Tryz.prog 109 #[.agg #[.pointer (some ⟨ba,oa,none⟩),.pointer (some ⟨bb,ob,none⟩)]] w fun e w'=>e= .returned (.bool (spL A.nums B.nums))∧Below w.heap.size w w':=by
 have x4:=hA.d4;have y4:=hB.d4;have za:=hA.zn;have zb:=hB.zn;rcases sp_one fa with ea|⟨p,ea,a1,a2⟩
 · rw [ea] at x4 ⊢;exact nums_lie_none ba oa bb ob w hA.lt _ _ x4
 · rcases sp_one fb with eb|⟨q,eb,b1,b2⟩
   · rw [ea] at x4 ⊢;rw [eb] at y4 ⊢;exact nums_lie_out ba oa bb ob w hA.lt hB.lt _ _ _ _ _ (by simp) x4 y4
   · obtain ⟨sb,so,es,ls,hs⟩:=hA.sp.row (by rw [ea];simp);obtain ⟨qb,qo,eq,lq,hq⟩:=hB.sp.row (by rw [eb];simp);have k1:=hs 0 (by rw [ea];simp);have k2:=hq 0 (by rw [eb];simp);simp only [ea,List.getElem_cons_zero,Nat.zero_mul,Nat.add_zero] at k1;simp only [eb,List.getElem_cons_zero,Nat.zero_mul,Nat.add_zero] at k2;rw [ea,es] at x4;rw [eb,eq] at y4;have z1:=za p (by rw [ea];exact List.mem_singleton.2 rfl);have z2:=zb q (by rw [eb];exact List.mem_singleton.2 rfl);rw [ea,eb];show Calls _ _ _ _ fun e w'=>e= .returned (.bool (inS p.1 p.2 q.1 q.2))∧_;rw [← inS_prog a1 a2 b1 b2];exact nums_lie_both ba oa bb ob w hA.lt hB.lt sb so qb qo _ _ _ _ (by simp) (by simp) ls lq _ _ _ _ _ x4 y4 k1.1 k1.2 k2.1 k2.2 (hQz fun u=>w_bSpan _ _ _ _ u z1.1 z1.2 z2.1 z2.2)
theorem w_textsLie (fb:rK B.texts B.texts.length=true):Calls Tryz.prog 110 #[.agg #[.pointer (some ⟨ba,oa,none⟩),.pointer (some ⟨bb,ob,none⟩)]] w fun e w'=>e= .returned (.bool (txL A B))∧Below w.heap.size w w':=
 texts_lie ba oa bb ob w hA.lt hB.lt A.any B.any xo _ xc xo2 _ xc2 A.texts B.texts hA.d5 hA.d6 hB.d5 hB.d6 hA.tx hB.tx rfl rfl hA.caps.2.1 hB.caps.2.1 hA.lens.2.1 hB.lens.2.1 fb
theorem w_arraysLie (ih:0<B.arrs.length→LsOk h) (fa:arB (fmN h) A.arrs=true) (fb:arB (fmN h) B.arrs=true):Calls Tryz.prog 111 #[.agg #[.pointer (some ⟨ba,oa,none⟩),.pointer (some ⟨bb,ob,none⟩)]] w fun e w'=>e= .returned (.bool (arL (bwN h) A.arrs B.arrs))∧Below w.heap.size w w':=by
 have x7:=hA.d7;have y7:=hB.d7;rcases ar_one fa with ea|⟨x,ea,a1⟩
 · rw [ea] at x7 ⊢;exact arrs_lie_none ba oa bb ob w hA.lt _ _ x7
 · rcases ar_one fb with eb|⟨y,eb,b1⟩
   · rw [ea] at x7 ⊢;rw [eb] at y7 ⊢;exact arrs_lie_out ba oa bb ob w hA.lt hB.lt _ _ _ _ _ (by simp) x7 y7
   · obtain ⟨sb,so,es,hs⟩:=hA.ar (by rw [ea];simp);obtain ⟨qb,qo,eq,hq⟩:=hB.ar (by rw [eb];simp);have k1:=hs 0 (by rw [ea];simp);have k2:=hq 0 (by rw [eb];simp);simp only [ea,List.getElem_cons_zero,Nat.zero_mul,Nat.add_zero] at k1;simp only [eb,List.getElem_cons_zero,Nat.zero_mul,Nat.add_zero] at k2;rw [ea,es] at x7;rw [eb,eq] at y7;rw [ea,eb];exact arrs_lie_both ba oa bb ob w hA.lt hB.lt sb so qb qo _ _ _ _ (by simp) (by simp) k1.1.lt k2.1.lt x.min x.max y.min y.max _ x7 y7 k1.2.1 k1.2.2 k2.2.1 k2.2.2 (hQz fun u hu=>ih (by rw [eb];simp) _ _ _ _ _ _ u (k1.1.keep hu) (k2.1.keep hu) a1 b1)
end
theorem lie1_0 (B ba oa bb ob:Nat) (r:Bool) (w:World) (p0:w.cell? ⟨B,0,none⟩=some (.pointer (some ⟨ba,oa,none⟩))) (p1:w.cell? ⟨B,1,none⟩=some (.pointer (some ⟨bb,ob,none⟩)))
 (HC:Hid (Calls Tryz.prog 108 #[.agg #[.pointer (some ⟨ba,oa,none⟩),.pointer (some ⟨bb,ob,none⟩)]] w fun e w'=>e= .returned (.bool r)∧Below w.heap.size w w')):Calls Tryz.prog 67 #[.func (.func 108) #[] #[],.pointer (some ⟨B,0,none⟩)] w fun e w'=>e= .returned (.bool (!r))∧Below w.heap.size w w':=by
 go_enter Tryz.func67,Tryz.ntmps67;go_wp2_with fail;refine HC.out.mono ?_;rintro e w2 ⟨rfl,hq⟩;go_wp2_with fail;go_ret;exact ⟨rfl,hq⟩
theorem lie1_1 (B ba oa bb ob:Nat) (r:Bool) (w:World) (p0:w.cell? ⟨B,0,none⟩=some (.pointer (some ⟨ba,oa,none⟩))) (p1:w.cell? ⟨B,1,none⟩=some (.pointer (some ⟨bb,ob,none⟩)))
 (HC:Hid (Calls Tryz.prog 109 #[.agg #[.pointer (some ⟨ba,oa,none⟩),.pointer (some ⟨bb,ob,none⟩)]] w fun e w'=>e= .returned (.bool r)∧Below w.heap.size w w')):Calls Tryz.prog 67 #[.func (.func 109) #[] #[],.pointer (some ⟨B,0,none⟩)] w fun e w'=>e= .returned (.bool (!r))∧Below w.heap.size w w':=by
 go_enter Tryz.func67,Tryz.ntmps67;go_wp2_with fail;refine HC.out.mono ?_;rintro e w2 ⟨rfl,hq⟩;go_wp2_with fail;go_ret;exact ⟨rfl,hq⟩
theorem lie1_2 (B ba oa bb ob:Nat) (r:Bool) (w:World) (p0:w.cell? ⟨B,0,none⟩=some (.pointer (some ⟨ba,oa,none⟩))) (p1:w.cell? ⟨B,1,none⟩=some (.pointer (some ⟨bb,ob,none⟩)))
 (HC:Hid (Calls Tryz.prog 110 #[.agg #[.pointer (some ⟨ba,oa,none⟩),.pointer (some ⟨bb,ob,none⟩)]] w fun e w'=>e= .returned (.bool r)∧Below w.heap.size w w')):Calls Tryz.prog 67 #[.func (.func 110) #[] #[],.pointer (some ⟨B,0,none⟩)] w fun e w'=>e= .returned (.bool (!r))∧Below w.heap.size w w':=by
 go_enter Tryz.func67,Tryz.ntmps67;go_wp2_with fail;refine HC.out.mono ?_;rintro e w2 ⟨rfl,hq⟩;go_wp2_with fail;go_ret;exact ⟨rfl,hq⟩
theorem lie1_3 (B ba oa bb ob:Nat) (r:Bool) (w:World) (p0:w.cell? ⟨B,0,none⟩=some (.pointer (some ⟨ba,oa,none⟩))) (p1:w.cell? ⟨B,1,none⟩=some (.pointer (some ⟨bb,ob,none⟩)))
 (HC:Hid (Calls Tryz.prog 111 #[.agg #[.pointer (some ⟨ba,oa,none⟩),.pointer (some ⟨bb,ob,none⟩)]] w fun e w'=>e= .returned (.bool r)∧Below w.heap.size w w')):Calls Tryz.prog 67 #[.func (.func 111) #[] #[],.pointer (some ⟨B,0,none⟩)] w fun e w'=>e= .returned (.bool (!r))∧Below w.heap.size w w':=by
 go_enter Tryz.func67,Tryz.ntmps67;go_wp2_with fail;refine HC.out.mono ?_;rintro e w2 ⟨rfl,hq⟩;go_wp2_with fail;go_ret;exact ⟨rfl,hq⟩
theorem lie1_4 (B ba oa bb ob:Nat) (r:Bool) (w:World) (p0:w.cell? ⟨B,0,none⟩=some (.pointer (some ⟨ba,oa,none⟩))) (p1:w.cell? ⟨B,1,none⟩=some (.pointer (some ⟨bb,ob,none⟩)))
 (HC:Hid (Calls Tryz.prog 112 #[.agg #[.pointer (some ⟨ba,oa,none⟩),.pointer (some ⟨bb,ob,none⟩)]] w fun e w'=>e= .returned (.bool r)∧Below w.heap.size w w')):Calls Tryz.prog 67 #[.func (.func 112) #[] #[],.pointer (some ⟨B,0,none⟩)] w fun e w'=>e= .returned (.bool (!r))∧Below w.heap.size w w':=by
 go_enter Tryz.func67,Tryz.ntmps67;go_wp2_with fail;refine HC.out.mono ?_;rintro e w2 ⟨rfl,hq⟩;go_wp2_with fail;go_ret;exact ⟨rfl,hq⟩
theorem w_lying (w:World):Calls Tryz.prog 66 #[] w fun e w'=>e= .returned (.slice (some ⟨w.heap.size,0,none⟩) 5 5)∧w'=w.alloc (.cells #[.func (.func 108) #[] #[],.func (.func 109) #[] #[],.func (.func 110) #[] #[],.func (.func 111) #[] #[],.func (.func 112) #[] #[]] 103):=by
 go_enter Tryz.func66,Tryz.ntmps66;go_wp2_with fail;go_ret;exact ⟨rfl,rfl⟩
theorem w_evB (w:World):Calls Tryz.prog 106 #[] w fun e w'=>e= .returned (.agg #[.bool true,.bool false,.bool false,.bool false,.slice none 0 0,.bool false,.slice none 0 0,.slice none 0 0,.slice none 0 0])∧Below w.heap.size w w':=by
 have HB:=hQz (fun o=>q05 w o);go_enter Tryz.func106,Tryz.ntmps106;go_wp2_with fail;(try simp only [Exit.inBlock,Exit.then])
 refine bodyPost_ret (v:= .agg #[.bool true,.bool false,.bool false,.bool false,.slice none 0 0,.bool false,.slice none 0 0,.slice none 0 0,.slice none 0 0]) (by simp [results,Tryz.results106,go_sem]) rfl ?_;exact ⟨rfl,by first|exact HB.out _|exact Below.refl _ _⟩
theorem laid_in (w1:World) (m:Nat):PtT (((((w1.alloc (.cells #[.bool true,.bool false,.bool false,.bool false,.slice none 0 0,.bool false,.slice none 0 0,.slice none 0 0,.slice none 0 0] 27)).alloc (.cells #[.string ⟨#[]⟩,.string ⟨#[]⟩] 83)).alloc (.cells #[.bool true,.bool false,.bool false,.bool false,.slice none 0 0,.bool false,.slice none 0 0,.slice none 0 0,.slice none 0 0,.int .i64 0,.int .i64 (-1)] 89)).alloc (.cells #[.slice none 0 0,.slice none 0 0,.slice none 0 0,.bool true,.bool false,.bool false,.bool false,.slice none 0 0,.bool false,.slice none 0 0,.slice none 0 0,.slice none 0 0] 95)).alloc (.cells #[.bool false,.bool true,.bool true,.bool true,.slice (some ⟨w1.heap.size+1,0,none⟩) 1 1,.bool true,.slice none 0 0,.slice (some ⟨w1.heap.size+1+1,0,none⟩) 1 1,.slice (some ⟨w1.heap.size+1+1+1,0,none⟩) 1 1] 27)) (m+2) laidT (w1.heap.size+1+1+1+1) 0:=by
 generalize hW:((((w1.alloc (.cells #[.bool true,.bool false,.bool false,.bool false,.slice none 0 0,.bool false,.slice none 0 0,.slice none 0 0,.slice none 0 0] 27)).alloc (.cells #[.string ⟨#[]⟩,.string ⟨#[]⟩] 83)).alloc (.cells #[.bool true,.bool false,.bool false,.bool false,.slice none 0 0,.bool false,.slice none 0 0,.slice none 0 0,.slice none 0 0,.int .i64 0,.int .i64 (-1)] 89)).alloc (.cells #[.slice none 0 0,.slice none 0 0,.slice none 0 0,.bool true,.bool false,.bool false,.bool false,.slice none 0 0,.bool false,.slice none 0 0,.slice none 0 0,.slice none 0 0] 95)).alloc (.cells #[.bool false,.bool true,.bool true,.bool true,.slice (some ⟨w1.heap.size+1,0,none⟩) 1 1,.bool true,.slice none 0 0,.slice (some ⟨w1.heap.size+1+1,0,none⟩) 1 1,.slice (some ⟨w1.heap.size+1+1+1,0,none⟩) 1 1] 27)=W;have hs:W.heap.size=w1.heap.size+1+1+1+1+1:=by rw [← hW];simp
 have r1:W.heap[w1.heap.size+1]? =some (.cells #[.string ⟨#[]⟩,.string ⟨#[]⟩] 83 (0,0)):=by
  rw [← hW,Below.heap_alloc _ _ _ (by simp),Below.heap_alloc _ _ _ (by simp),Below.heap_alloc _ _ _ (by simp)];have h:=World.alloc_heap_new (w1.alloc (.cells #[.bool true,.bool false,.bool false,.bool false,.slice none 0 0,.bool false,.slice none 0 0,.slice none 0 0,.slice none 0 0] 27)) (.cells #[.string ⟨#[]⟩,.string ⟨#[]⟩] 83);rw [World.size_alloc] at h;exact h
 have r2:W.heap[w1.heap.size+1+1]? =some (.cells #[.bool true,.bool false,.bool false,.bool false,.slice none 0 0,.bool false,.slice none 0 0,.slice none 0 0,.slice none 0 0,.int .i64 0,.int .i64 (-1)] 89 (0,0)):=by
  rw [← hW,Below.heap_alloc _ _ _ (by simp),Below.heap_alloc _ _ _ (by simp)];have h:=World.alloc_heap_new ((w1.alloc (.cells #[.bool true,.bool false,.bool false,.bool false,.slice none 0 0,.bool false,.slice none 0 0,.slice none 0 0,.slice none 0 0] 27)).alloc (.cells #[.string ⟨#[]⟩,.string ⟨#[]⟩] 83)) (.cells #[.bool true,.bool false,.bool false,.bool false,.slice none 0 0,.bool false,.slice none 0 0,.slice none 0 0,.slice none 0 0,.int .i64 0,.int .i64 (-1)] 89);rw [World.size_alloc,World.size_alloc] at h;exact h
 have r3:W.heap[w1.heap.size+1+1+1]? =some (.cells #[.slice none 0 0,.slice none 0 0,.slice none 0 0,.bool true,.bool false,.bool false,.bool false,.slice none 0 0,.bool false,.slice none 0 0,.slice none 0 0,.slice none 0 0] 95 (0,0)):=by
  rw [← hW,Below.heap_alloc _ _ _ (by simp)];have h:=World.alloc_heap_new (((w1.alloc (.cells #[.bool true,.bool false,.bool false,.bool false,.slice none 0 0,.bool false,.slice none 0 0,.slice none 0 0,.slice none 0 0] 27)).alloc (.cells #[.string ⟨#[]⟩,.string ⟨#[]⟩] 83)).alloc (.cells #[.bool true,.bool false,.bool false,.bool false,.slice none 0 0,.bool false,.slice none 0 0,.slice none 0 0,.slice none 0 0,.int .i64 0,.int .i64 (-1)] 89)) (.cells #[.slice none 0 0,.slice none 0 0,.slice none 0 0,.bool true,.bool false,.bool false,.bool false,.slice none 0 0,.bool false,.slice none 0 0,.slice none 0 0,.slice none 0 0] 95);rw [World.size_alloc,World.size_alloc,World.size_alloc] at h;exact h
 have r4:W.heap[w1.heap.size+1+1+1+1]? =some (.cells #[.bool false,.bool true,.bool true,.bool true,.slice (some ⟨w1.heap.size+1,0,none⟩) 1 1,.bool true,.slice none 0 0,.slice (some ⟨w1.heap.size+1+1,0,none⟩) 1 1,.slice (some ⟨w1.heap.size+1+1+1,0,none⟩) 1 1] 27 (0,0)):=by
  rw [← hW];have h:=World.alloc_heap_new ((((w1.alloc (.cells #[.bool true,.bool false,.bool false,.bool false,.slice none 0 0,.bool false,.slice none 0 0,.slice none 0 0,.slice none 0 0] 27)).alloc (.cells #[.string ⟨#[]⟩,.string ⟨#[]⟩] 83)).alloc (.cells #[.bool true,.bool false,.bool false,.bool false,.slice none 0 0,.bool false,.slice none 0 0,.slice none 0 0,.slice none 0 0,.int .i64 0,.int .i64 (-1)] 89)).alloc (.cells #[.slice none 0 0,.slice none 0 0,.slice none 0 0,.bool true,.bool false,.bool false,.bool false,.slice none 0 0,.bool false,.slice none 0 0,.slice none 0 0,.slice none 0 0] 95)) (.cells #[.bool false,.bool true,.bool true,.bool true,.slice (some ⟨w1.heap.size+1,0,none⟩) 1 1,.bool true,.slice none 0 0,.slice (some ⟨w1.heap.size+1+1,0,none⟩) 1 1,.slice (some ⟨w1.heap.size+1+1+1,0,none⟩) 1 1] 27);rw [World.size_alloc,World.size_alloc,World.size_alloc,World.size_alloc] at h;exact h
 clear hW;refine ⟨by omega,_,_,_,_,_,_,_,_,_,⟨cell_of_row _ _ 0 _ _ _ r4,cell_of_row _ _ 1 _ _ _ r4,cell_of_row _ _ 2 _ _ _ r4,cell_of_row _ _ 3 _ _ _ r4,cell_of_row _ _ 4 _ _ _ r4,cell_of_row _ _ 5 _ _ _ r4,cell_of_row _ _ 6 _ _ _ r4,cell_of_row _ _ 7 _ _ _ r4,cell_of_row _ _ 8 _ _ _ r4⟩,?_⟩;refine ⟨some ⟨w1.heap.size+1,0,none⟩,1,none,0,some ⟨w1.heap.size+1+1,0,none⟩,1,some ⟨w1.heap.size+1+1+1,0,none⟩,1,rfl,⟨Nat.le_refl _,Nat.le_refl _,Nat.le_refl _,Nat.le_refl _⟩,⟨by show 1≤_;decide,Nat.zero_le _,by show 1≤_;decide,by show 1≤_;decide⟩,fun p hp=> ?_,fun p hp=>absurd hp (List.not_mem_nil),⟨fun _=>⟨w1.heap.size+1,0,rfl,by omega,fun i hi=> ?_⟩⟩,⟨fun h=>absurd h (Nat.lt_irrefl 0)⟩,fun _=>⟨w1.heap.size+1+1,0,rfl,by omega,fun i hi=> ?_⟩,fun _=>⟨w1.heap.size+1+1+1,0,rfl,by omega,fun i hi=> ?_⟩⟩
 · obtain rfl:p=(.empty,.empty):=List.mem_singleton.1 hp;exact ⟨by decide,by decide⟩
 · obtain rfl:i=0:=by have:i<1:=hi;omega
   exact ⟨cell_of_row _ _ 0 _ _ _ r1,cell_of_row _ _ 1 _ _ _ r1⟩
 · obtain rfl:i=0:=by have:i<1:=hi;omega
   exact ⟨_,_,_,_,_,_,_,_,_,⟨cell_of_row _ _ 0 _ _ _ r2,cell_of_row _ _ 1 _ _ _ r2,cell_of_row _ _ 2 _ _ _ r2,cell_of_row _ _ 3 _ _ _ r2,cell_of_row _ _ 4 _ _ _ r2,cell_of_row _ _ 5 _ _ _ r2,cell_of_row _ _ 6 _ _ _ r2,cell_of_row _ _ 7 _ _ _ r2,cell_of_row _ _ 8 _ _ _ r2⟩,cell_of_row _ _ 9 _ _ _ r2,cell_of_row _ _ 10 _ _ _ r2,inT_evr W m⟩
 · obtain rfl:i=0:=by have:i<1:=hi;omega
   exact ⟨none,0,none,0,none,0,_,_,_,_,_,_,_,_,_,⟨cell_of_row _ _ 0 _ _ _ r3,cell_of_row _ _ 1 _ _ _ r3,cell_of_row _ _ 2 _ _ _ r3⟩,⟨cell_of_row _ _ 3 _ _ _ r3,cell_of_row _ _ 4 _ _ _ r3,cell_of_row _ _ 5 _ _ _ r3,cell_of_row _ _ 6 _ _ _ r3,cell_of_row _ _ 7 _ _ _ r3,cell_of_row _ _ 8 _ _ _ r3,cell_of_row _ _ 9 _ _ _ r3,cell_of_row _ _ 10 _ _ _ r3,cell_of_row _ _ 11 _ _ _ r3⟩,⟨Nat.le_refl _,Nat.le_refl _,Nat.le_refl _⟩,⟨Nat.zero_le _,Nat.zero_le _,Nat.zero_le _,fun k hk=>absurd hk (List.not_mem_nil)⟩,⟨fun h=>absurd h (Nat.lt_irrefl 0)⟩,⟨fun h=>absurd h (Nat.lt_irrefl 0)⟩,fun h=>absurd h (Nat.lt_irrefl 0),inT_evr W m⟩
theorem w_laidOut (m:Nat) (w:World):Calls Tryz.prog 64 #[] w fun e w'=>∃ b,e= .returned (.pointer (some ⟨b,0,none⟩))∧PtT w' (m+2) laidT b 0∧Below w.heap.size w w':=by
 go_enter Tryz.func64,Tryz.ntmps64;go_wp2_with fail;refine (w_evB _).mono ?_;rintro e w1 ⟨rfl,hq⟩;have HB:=hQz hq;clear hq;go_wp2_with fail;go_ret;exact ⟨_,rfl,laid_in w1 m,((((HB.out.alloc HB.out.size _).alloc (by simp;have:=HB.out.size;omega) _).alloc (by simp;have:=HB.out.size;omega) _).alloc (by simp;have:=HB.out.size;omega) _).alloc (by simp;have:=HB.out.size;omega) _⟩
theorem fm_up':∀ {h:Nat} {T:TT},fmN h T=true→fmN (h+1) T=true
 | 0,_,h=>by cases h
 | h+1,T,hf=>by
  rw [fm_split,Bool.and_eq_true,List.all_eq_true] at hf ⊢;exact ⟨hf.1,fun x hx=>fm_up' (hf.2 x hx)⟩
theorem fm_le' {h m:Nat} {T:TT} (hf:fmN h T=true) (hm:h≤m):fmN m T=true:=by
 induction hm with
 | refl=>exact hf
 | step _ ih=>exact fm_up' ih
theorem fm_laid2:fmN 2 laidT=true:=by decide +kernel
theorem fm_laid (m:Nat):fmN (m+2) laidT=true:=fm_le' fm_laid2 (by omega)
theorem lies_all (A B:TT) (ba oa bb ob:Nat) (w:World) (y0:w.cell? ⟨bb,ob,none⟩=some (.bool true)):Calls Tryz.prog 19 #[.pointer (some ⟨ba,oa,none⟩),.pointer (some ⟨bb,ob,none⟩)] w fun e w'=>e= .returned (.bool true)∧Below w.heap.size w w':=by
 go_enter Tryz.func19,Tryz.ntmps19;go_wp2_with fail;go_ret;exact ⟨rfl,Below.refl _ _⟩
def lyF (k:Nat):Value:=match k with|0=> .func (.func 108) #[] #[]|1=> .func (.func 109) #[] #[]|2=> .func (.func 110) #[] #[]|3=> .func (.func 111) #[] #[]|_=> .func (.func 112) #[] #[]
theorem lies_plain (ba oa bb ob:Nat) (r:Bool) (w:World) (x0:w.cell? ⟨ba,oa,none⟩=some (.bool false)) (y0:w.cell? ⟨bb,ob,none⟩=some (.bool false))
 (HC:Hid (∀ P u,Bx2c w u P (.pointer (some ⟨ba,oa,none⟩)) (.pointer (some ⟨bb,ob,none⟩))→∀ so,(∀ u2,Below u.heap.size u u2→∃ b off,so=some ⟨b,off,none⟩∧∀ k,k<5→u2.cell? ⟨b,off+k,none⟩=some (lyF k))→Calls Tryz.prog 65 #[.slice so 5 5,.func (.func 67) #[] #[.pointer (some ⟨P,0,none⟩)]] u fun e w'=>e= .returned (.bool r)∧Below u.heap.size u w')):
 Calls Tryz.prog 19 #[.pointer (some ⟨ba,oa,none⟩),.pointer (some ⟨bb,ob,none⟩)] w fun e w'=>e= .returned (.bool (!r))∧Below w.heap.size w w':=by
 go_enter Tryz.func19,Tryz.ntmps19;go_upto_region 5 with fail;obtain ⟨PB,hPB⟩:∃ PB,w.heap.size=PB:=⟨_,rfl⟩;obtain ⟨W2,hW2⟩:∃ W2,w.alloc (.cells #[.pointer (some ⟨ba,oa,none⟩),.pointer (some ⟨bb,ob,none⟩)] 100)=W2:=⟨_,rfl⟩;have HX:Hid (Bx2c w W2 PB (.pointer (some ⟨ba,oa,none⟩)) (.pointer (some ⟨bb,ob,none⟩))):=by rw [← hW2,← hPB];exact q07 w _ _ _
 have HWq:=hQz hW2;have HBq:=hQz hPB;clear hW2 hPB;go_upto_region 6 with fail
 try rw [HWq.out]
 try rw [HBq.out]
 clear HWq HBq x0 y0;go_wp2_with fail;refine (w_lying _).mono ?_;rintro e w3 ⟨rfl,hw3⟩;obtain ⟨SB,hSB⟩:∃ SB,W2.heap.size=SB:=⟨_,rfl⟩;have hb3:Below W2.heap.size W2 w3:=by rw [hw3];exact q05 W2 _
 have HX3:=hQz (HX.out.keep hb3);have HR3:Hid (w3.heap[SB]? =some (.cells #[.func (.func 108) #[] #[],.func (.func 109) #[] #[],.func (.func 110) #[] #[],.func (.func 111) #[] #[],.func (.func 112) #[] #[]] 103 (0,0))):=by show _=_;rw [hw3,← hSB];exact World.alloc_heap_new W2 _
 rw [hSB];clear hw3 hSB hb3
 have HC3:=hQz (HC.out PB w3 HX3.out (some ⟨SB,0,none⟩) (fun u hu=>⟨SB,0,rfl,fun k hk=>by
  have hr:=(hu.block _ (q00 HR3.out)).trans HR3.out;rw [Nat.zero_add];rw [cell_of_row _ _ k _ _ _ hr]
  match k,hk with
  | 0,_=>rfl
  | 1,_=>rfl
  | 2,_=>rfl
  | 3,_=>rfl
  | 4,_=>rfl⟩))
 go_wp2_with fail;refine HC3.out.mono ?_;rintro e w4 ⟨rfl,hq⟩;have HX4:=hQz (HX3.out.keep hq);clear hq;go_wp2_with fail;go_ret;exact ⟨rfl,HX4.out.below⟩
theorem lies_every (m:Nat) (ba oa bb ob:Nat) (r:Bool) (w:World) (lb:bb<w.heap.size) (x0:w.cell? ⟨ba,oa,none⟩=some (.bool true)) (y0:w.cell? ⟨bb,ob,none⟩=some (.bool false))
 (HC0:Hid (∀ w1 b1,Below w.heap.size w w1→PtT w1 (m+2) laidT b1 0→∀ P u,Bx2c w1 u P (.pointer (some ⟨b1,0,none⟩)) (.pointer (some ⟨bb,ob,none⟩))→∀ so,(∀ u2,Below u.heap.size u u2→∃ b off,so=some ⟨b,off,none⟩∧∀ k,k<5→u2.cell? ⟨b,off+k,none⟩=some (lyF k))→Calls Tryz.prog 65 #[.slice so 5 5,.func (.func 67) #[] #[.pointer (some ⟨P,0,none⟩)]] u fun e w'=>e= .returned (.bool r)∧Below u.heap.size u w')):
 Calls Tryz.prog 19 #[.pointer (some ⟨ba,oa,none⟩),.pointer (some ⟨bb,ob,none⟩)] w fun e w'=>e= .returned (.bool (!r))∧Below w.heap.size w w':=by
 go_enter Tryz.func19,Tryz.ntmps19;go_wp2_with fail;refine (w_laidOut m w).mono ?_;rintro e w1 ⟨b1,rfl,hp,hq⟩;have HB1:=hQz hq;have HC:=hQz (HC0.out w1 b1 hq hp);have y0:=(hq.cell (p:=⟨bb,ob,none⟩) lb).trans y0;have x0:=x0;clear hq hp;go_upto_region 5 with fail;obtain ⟨PB,hPB⟩:∃ PB,w1.heap.size=PB:=⟨_,rfl⟩;obtain ⟨W2,hW2⟩:∃ W2,w1.alloc (.cells #[.pointer (some ⟨b1,0,none⟩),.pointer (some ⟨bb,ob,none⟩)] 100)=W2:=⟨_,rfl⟩;have HX:Hid (Bx2c w1 W2 PB (.pointer (some ⟨b1,0,none⟩)) (.pointer (some ⟨bb,ob,none⟩))):=by rw [← hW2,← hPB];exact q07 w1 _ _ _
 have HWq:=hQz hW2;have HBq:=hQz hPB;clear hW2 hPB;go_upto_region 6 with fail
 try rw [HWq.out]
 try rw [HBq.out]
 clear HWq HBq x0 y0;go_wp2_with fail;refine (w_lying _).mono ?_;rintro e w3 ⟨rfl,hw3⟩;obtain ⟨SB,hSB⟩:∃ SB,W2.heap.size=SB:=⟨_,rfl⟩;have hb3:Below W2.heap.size W2 w3:=by rw [hw3];exact q05 W2 _
 have HX3:=hQz (HX.out.keep hb3);have HR3:Hid (w3.heap[SB]? =some (.cells #[.func (.func 108) #[] #[],.func (.func 109) #[] #[],.func (.func 110) #[] #[],.func (.func 111) #[] #[],.func (.func 112) #[] #[]] 103 (0,0))):=by show _=_;rw [hw3,← hSB];exact World.alloc_heap_new W2 _
 rw [hSB];clear hw3 hSB hb3
 have HC3:=hQz (HC.out PB w3 HX3.out (some ⟨SB,0,none⟩) (fun u hu=>⟨SB,0,rfl,fun k hk=>by
  have hr:=(hu.block _ (q00 HR3.out)).trans HR3.out;rw [Nat.zero_add];rw [cell_of_row _ _ k _ _ _ hr]
  match k,hk with
  | 0,_=>rfl
  | 1,_=>rfl
  | 2,_=>rfl
  | 3,_=>rfl
  | 4,_=>rfl⟩))
 go_wp2_with fail;refine HC3.out.mono ?_;rintro e w4 ⟨rfl,hq⟩;have HX4:=hQz (HX3.out.keep hq);clear hq;go_wp2_with fail;go_ret;exact ⟨rfl,HB1.out.trans (HX4.out.below.mono HB1.out.size)⟩
theorem has_lies (h:Nat) (A B:TT) (ih:0<B.arrs.length∨0<B.objs.length→LsOk h) (ba oa bb ob:Nat) (w:World) (hA:PtT w (h+1) A ba oa) (hB:PtT w (h+1) B bb ob) (fa:fmN (h+1) A=true) (fb:fmN (h+1) B=true) (P:Nat) (u:World) (hu:Bx2c w u P (.pointer (some ⟨ba,oa,none⟩)) (.pointer (some ⟨bb,ob,none⟩))) (so:Option Addr) (hs:∀ u2,Below u.heap.size u u2→∃ b off,so=some ⟨b,off,none⟩∧∀ k,k<5→u2.cell? ⟨b,off+k,none⟩=some (lyF k)):
 Calls Tryz.prog 65 #[.slice so 5 5,.func (.func 67) #[] #[.pointer (some ⟨P,0,none⟩)]] u fun e w'=>e= .returned (.bool (!bwK (bwN h) A B))∧Below u.heap.size u w':=by
 obtain ⟨a1,a2,a3,a4,_,_⟩:=fm_open fa;obtain ⟨b1,b2,b3,b4,_,_⟩:=fm_open fb
 have key:=has_lie so 5 5 lyF (fun k=>match k with|0=> !flL A B|1=> !spL A.nums B.nums|2=> !txL A B|3=> !arL (bwN h) A.arrs B.arrs|_=> !obL (bwN h) A.objs B.objs) P u (Nat.le_refl _) (by decide) (hQz fun u2 hu2 _=>hs u2 hu2)
  (hQz fun k hk u2 hu2=>by
   have hx:=hu.keep hu2;obtain ⟨no,nc,xo,xc,ao,ac,oo,oc,hA'⟩:=(hA.keep hx.below).open;obtain ⟨no2,nc2,xo2,xc2,ao2,ac2,oo2,oc2,hB'⟩:=(hB.keep hx.below).open
   match k,hk with
   | 0,_=>exact lie1_0 P ba oa bb ob _ u2 hx.c0 hx.c1 (hQz (w_flagsLie h A B ba oa bb ob _ _ _ _ _ _ _ _ _ _ _ _ _ _ _ _ u2 hA' hB'))
   | 1,_=>exact lie1_1 P ba oa bb ob _ u2 hx.c0 hx.c1 (hQz (w_numsLie h A B ba oa bb ob _ _ _ _ _ _ _ _ _ _ _ _ _ _ _ _ u2 hA' hB' a2 b2))
   | 2,_=>exact lie1_2 P ba oa bb ob _ u2 hx.c0 hx.c1 (hQz (w_textsLie h A B ba oa bb ob _ _ _ _ _ _ _ _ _ _ _ _ _ _ _ _ u2 hA' hB' b1))
   | 3,_=>exact lie1_3 P ba oa bb ob _ u2 hx.c0 hx.c1 (hQz (w_arraysLie h A B ba oa bb ob _ _ _ _ _ _ _ _ _ _ _ _ _ _ _ _ u2 hA' hB' (fun hh=>ih (.inl hh)) a3 b3))
   | 4,_=>exact lie1_4 P ba oa bb ob _ u2 hx.c0 hx.c1 (hQz (w_objectsLie h A B (fun hh=>ih (.inr hh)) ba oa bb ob _ _ _ _ _ _ _ _ _ _ _ _ _ _ _ _ u2 hA' hB' a4 b4)))
  (hQz fun k hk=>by
   match k,hk with
   | 0,_=>exact ⟨_,rfl⟩
   | 1,_=>exact ⟨_,rfl⟩
   | 2,_=>exact ⟨_,rfl⟩
   | 3,_=>exact ⟨_,rfl⟩
   | 4,_=>exact ⟨_,rfl⟩)
 have e:((List.range 5).any fun k=>match k with|0=> !flL A B|1=> !spL A.nums B.nums|2=> !txL A B|3=> !arL (bwN h) A.arrs B.arrs|_=> !obL (bwN h) A.objs B.objs)= !bwK (bwN h) A B:=by
  show (!flL A B||(!spL A.nums B.nums||(!txL A B||(!arL (bwN h) A.arrs B.arrs||(!obL (bwN h) A.objs B.objs||false)))))=_;unfold bwK
  cases flL A B <;> cases spL A.nums B.nums <;> cases txL A B <;> cases arL (bwN h) A.arrs B.arrs <;> cases obL (bwN h) A.objs B.objs <;> rfl
 rw [e] at key;exact key
theorem laid_none {T:TT} (h:T.all=false):laid T=T:=by unfold laid;rw [h];rfl
theorem laid_all {T:TT} (h:T.all=true):laid T=laidT:=by unfold laid;rw [h];rfl
theorem bwK_none {f:TT→TT→Bool} {B:TT} (h:B.arrs=[]):bwK f laidT B=false:=by
 unfold bwK;rw [h];show (_&&(_&&(_&&(false&&_))))=false;simp
theorem PtT.le {w:World} {h m:Nat} {T:TT} {b off:Nat} (x:PtT w h T b off) (hm:h≤m):PtT w m T b off:=by
 obtain ⟨c0,c1,c2,c3,c4,c5,c6,c7,c8,h1,h2⟩:=x.ok;exact ⟨x.lt,c0,c1,c2,c3,c4,c5,c6,c7,c8,h1,h2.le hm⟩
theorem w_lies:∀ h,LsOk h
 | 0=>fun A B ba oa bb ob u hA hB fa fb=>by cases fa
 | h+1=>fun A B ba oa bb ob u hA hB fa fb=>by
  have ih:=w_lies h;obtain ⟨no,nc,xo,xc,ao,ac,oo,oc,hA'⟩:=hA.open;obtain ⟨no2,nc2,xo2,xc2,ao2,ac2,oo2,oc2,hB'⟩:=hB.open;unfold bwN
  cases hb:B.all with
  | true=>
   have y0:=hB'.d0;rw [hb] at y0;exact lies_all A B ba oa bb ob u y0
  | false=>
   have y0:=hB'.d0;rw [hb] at y0;rw [Bool.false_or]
   cases ha:A.all with
   | false=>
    have x0:=hA'.d0;rw [ha] at x0;rw [laid_none ha,← Bool.not_not (bwK (bwN h) A B)];exact lies_plain ba oa bb ob _ u x0 y0 (hQz fun P u2 hu so hs=>has_lies h A B (fun _=>ih) ba oa bb ob u hA hB fa fb P u2 hu so hs)
   | true=>
    have x0:=hA'.d0;rw [ha] at x0;rw [laid_all ha,← Bool.not_not (bwK (bwN h) laidT B)]
    cases h with
    | zero=>
     refine lies_every 0 ba oa bb ob _ u hB'.lt x0 y0 (hQz fun w1 b1 hw1 hp P u2 hu so hs=> ?_)
     have e1:B.arrs=[]:=by
      cases e:B.arrs with
      | nil=>rfl
      | cons y l=>
       obtain ⟨b2,off2,_,hc⟩:=hB'.ar (by rw [e];simp);obtain ⟨_,_,_,_,_,_,_,_,_,_,hf⟩:=(hc 0 (by rw [e];simp)).1.ok;exact hf.elim
     have e2:B.objs=[]:=by
      cases e:B.objs with
      | nil=>rfl
      | cons y l=>
       obtain ⟨b2,off2,_,hc⟩:=hB'.ob (by rw [e];simp);obtain ⟨_,_,_,_,_,_,hp⟩:=hc 0 (by rw [e];simp);obtain ⟨_,_,_,_,_,_,_,_,_,_,hf⟩:=hp.rest.ok;exact hf.elim
     have key:=has_lies 1 laidT B (fun hh=>by rw [e1,e2] at hh;simp at hh) b1 0 bb ob w1 hp ((hB.keep hw1).le (by omega)) (fm_laid 0) (fm_le' fb (by omega)) P u2 hu so hs;rw [bwK_none e1] at key ⊢;exact key
    | succ m=>
     exact lies_every m ba oa bb ob _ u hB'.lt x0 y0 (hQz fun w1 b1 hw1 hp P u2 hu so hs=>has_lies (m+1) laidT B (fun _=>ih) b1 0 bb ob w1 hp (hB.keep hw1) (fm_laid m) fb P u2 hu so hs)
end Go.Proofs.YtnokkmiaeacogaaGreat
