import Derived.Test.YtdjleoglphgdgaaGreatDoorM30
import Derived.Test.YtdjleoglphgdgaaGreatDoorM26
set_option linter.unusedVariables false
set_option linter.unusedSimpArgs false
namespace Go.Proofs.YtdjleoglphgdgaaGreatDoor
open Go.RowKit Go.Shelf
set_option maxRecDepth 100000
set_option maxHeartbeats 12800000
theorem own_laid {W:World} {B C:Nat} {s:ByteArray} {v:Value} {op:List Nat} (h:CtW B C s v op W):v.ownBlock≠some C:=q1i h.row h.box (by decide)
theorem w_enterIn (B C:Nat) (s:ByteArray) (v:Value) (op:List Nat) (W:World) (hC:CtW B C s v op W) (hB:B≤C) (hln:op.length≤1099511627776):
 Calls Tryz.prog 153 #[.pointer (some ⟨C,0,none⟩),.int .i64 7] W fun e w'=>(∃ r,e= .returned r)∧(∃ v',CtW B C s v' (op++[0]) w')∧CtL C v.ownBlock W w'∧Below B W w':=by
 obtain ⟨i0,hi0,hz0,hz1,hz2⟩:=info_parts Tryz.infoInt;have hrow:=hC.row;have HBK:=hQz hC.box;have hob:=own_laid hC;have c1:=hC.box.c1;have hgl:=hC.box.lt;obtain ⟨so,sc,rfl⟩:=own_shapeT hrow;have HOL:=hQz (opV_len op);generalize hm:op.length=m at *;have HM:=hQz hm;clear hm hC;go_enter Tryz.func153,Tryz.ntmps153;go_wp2_with (at_builtin;go_loud (refine wpList_append_own _ rfl _ _ 77 rfl B 3 i0 (.int .i64 0) 1 8 Tryz.underlying77 hi0 hz0 hz1 hz2 rfl (by decide) _ _ _ rfl (hrow.alloc _) ⟨W.heap.size,0,none⟩ 1 1 [.int .i64 0] rfl rfl (World.news_of_block (cs:= #[.int .i64 0]) (t:=3) (fr:=(0,0)) (heap_alloc_new W _)) (by intro u hu;simp at hu;subst hu;rfl) (by unfold maxLen;omega) (by omega) (by simp;omega) ?_));intro v' w5 hown' hgrow _;obtain ⟨g',cap',rfl⟩:=ownsRow_succ hown';have hgs:=hgrow.size;simp at hgs;have hbk5:CtB w5 C s (.slice so m sc):=(hgrow.block C (by simp;omega) (fun e=>hob e.symm)).trans ((Below.heap_alloc _ _ _ (by omega)).trans HBK.out);have e5:=hbk5.c1;have f5:=hbk5.f1;obtain ⟨w6,hw6⟩:∃ w6,w5.setCell ⟨C,1,none⟩ (.slice (some ⟨g',0,none⟩) (m+1) cap')=w6:=⟨_,rfl⟩;have HBK6:Hid (CtB w6 C s (.slice (some ⟨g',0,none⟩) (m+1) cap')):=by rw [← hw6];exact heap_setCell_same w5 C 1 _ _ _ hbk5
 have HOW6:Hid (w6.ownsRow B 3 1 (.slice (some ⟨g',0,none⟩) (m+1) cap') (op++[0]).length (opV (op++[0]))):=by
  rw [← hw6];have h1:=own_setT (a:=⟨C,1,none⟩) (u:= .slice (some ⟨g',0,none⟩) (m+1) cap') hown' (q1i hown' hbk5 (by decide));rw [List.length_append,HM.out];unfold opV at h1 ⊢;rw [List.map_append];exact h1
 have HLD6:Hid (CtL C (Value.slice so m sc).ownBlock W w6):=by
  rw [← hw6];refine ⟨by rw [World.size_setCell];omega,fun b hb h1 h2=> ?_⟩;exact (Below.heap_setCell _ _ _ _ h1).trans ((hgrow.block b (by simp;omega) (fun e=>h2 e.symm)).trans (Below.heap_alloc _ _ _ (by omega)))
 have HBW6:Hid (Below B W w6):=by
  rw [← hw6];exact ((((Below.refl B W).alloc (by omega) _).grown hgrow (by simp;omega) (fun r e=>own_baseW hrow r e))).setCell (p:=⟨C,1,none⟩) hB _
 clear hown' hgrow hob hbk5 HBK;have HW6:=hQz hw6;clear hw6;go_wp2_with fail;(try rw [HW6.out])
 first|go_ret|go_ret2|go_end0
 exact ⟨⟨_,rfl⟩,⟨_,HBK6.out,HOW6.out⟩,HLD6.out,HBW6.out⟩
theorem w_enterOut (B C:Nat) (s:ByteArray) (v:Value) (op:List Nat) (w:World) (hC:CtW B C s v op w) (hB:B≤C) (hln:op.length≤1099511627776) (hne:op≠[]):
 Calls Tryz.prog 153 #[.pointer (some ⟨C,0,none⟩),.int .i64 9] w fun e w'=>(∃ r,e= .returned r)∧(∃ v',CtW B C s v' op.dropLast w')∧CtL C v.ownBlock w w'∧Below B w w':=by
 obtain ⟨k,hk⟩:∃ k,op.length=k+1:=⟨op.length-1,by have:=List.length_pos_iff.2 hne;omega⟩;have c1:=hC.box.c1;have f1:=hC.box.f1;have hob:=own_laid hC;obtain ⟨g,cap,rfl,hg,hcap,hgl,_⟩:=op_last hC.row hk;obtain ⟨W,hW⟩:∃ W,w.setCell ⟨C,1,none⟩ (.slice (some ⟨g,0,none⟩) k cap)=W:=⟨_,rfl⟩
 have HF:Hid (CtW B C s (.slice (some ⟨g,0,none⟩) k cap) op.dropLast W):=by
  rw [← hW];exact ⟨heap_setCell_same w C 1 _ _ _ hC.box,own_setT (op_less hC.row hk) (fun e=>hob e)⟩
 have HL:Hid (∀ row,CtL C row w W):=by
  intro row;rw [← hW];exact ⟨by simp,fun b hb h1 h2=>Below.heap_setCell _ _ _ _ h1⟩
 have HBl:Hid (Below B w W):=by rw [← hW];exact (Below.refl B w).setCell (p:=⟨C,1,none⟩) hB _
 have hkk:k≤1099511627776:=by omega
 have hi0:(0:Int)≤(k:Int):=by omega
 have hi1:(k:Int)≤(cap:Int):=by omega
 have hi2:k≤cap:=by omega
 have HWW:=hQz hW;clear hW hC hk hne hln hg hob;have hmx:Tryz.prog.follows .mixedOrders=true:=by kernel_rfl
 have cd1:w.drew.cell? ⟨C,1,none⟩=some (.slice (some ⟨g,0,none⟩) (k+1) cap):=c1;have fd1:w.drew.frozen? ⟨C,1,none⟩=false:=f1;have HBd:Hid (CtW B C s (.slice (some ⟨g,0,none⟩) k cap) op.dropLast W.drew∧(∀ row,CtL C row w W.drew)∧Below B w W.drew):=⟨⟨HF.out.box,HF.out.row⟩,fun row=>⟨(HL.out row).size,(HL.out row).block⟩,HBl.out.drew⟩;have HWD:Hid (w.drew.setCell ⟨C,1,none⟩ (.slice (some ⟨g,0,none⟩) k cap)=W.drew):=by show _=_;rw [← HWW.out];rfl
 go_enter Tryz.func153,Tryz.ntmps153;go_wp2_with fail
 go_region
 all_goals
  go_wp2_with fail;(try rw [HWD.out])
  (try rw [HWW.out])
  first|go_ret|go_ret2|go_end0
  exact ⟨⟨_,rfl⟩,⟨_,HBd.out.1⟩,HBd.out.2.1 _,HBd.out.2.2⟩
theorem w_enterNo (C k:Nat) (w:World) (h7:k≠7) (h9:k≠9):
 Calls Tryz.prog 153 #[.pointer (some ⟨C,0,none⟩),.int .i64 (k:Int)] w fun e w'=>(∃ r,e= .returned r)∧w'=w:=by
 have e7:((k:Int)==7)=false:=by rw [bqZ];omega
 have e9:((k:Int)==9)=false:=by rw [bqZ];omega
 go_enter Tryz.func153,Tryz.ntmps153;go_wp2_with fail
 first|go_ret|go_ret2|go_end0
 exact ⟨⟨_,rfl⟩,rfl⟩
end Go.Proofs.YtdjleoglphgdgaaGreatDoor
namespace Go.Proofs.YtdjleoglphgdgaaGreatDoor
open Go.RowKit
set_option maxRecDepth 100000
set_option maxHeartbeats 12800000
def CtP (B C:Nat) (s:ByteArray) (v:Value) (op:List Nat) (t:Tok) (w w':World) (e:Ending):Prop:=
 e= .returned (.tuple #[tokV t,.int .i64 (t.err:Int)])∧(∃ v',CtW B C s v' (q1Z t op) w')∧CtL C v.ownBlock w w'∧Below B w w'
theorem CtW.other {B C R:Nat} {s:ByteArray} {v:Value} {op:List Nat} {w wz:World} {cs:Array Value} (h:CtW B C s v op w) (hX:w.heap[R]? =some (.cells cs 82 (0,0))) (z2:∀ b,b≠R→wz.heap[b]? =w.heap[b]?):CtW B C s v op wz:=by
 have hCR:C≠R:=fun e=>by
  have h1:=h.box;unfold CtB at h1;rw [e,hX] at h1;simp at h1
 have hv:v.ownBlock≠some R:=q1i h.row hX (by decide);refine ⟨(z2 C hCR).trans h.box,h.row.1,?_⟩;rcases h.row.2 with h1|⟨g',cap,cur,rfl,e2,e3,rest⟩
 · exact .inl h1
 · exact .inr ⟨g',cap,cur,rfl,e2,(z2 g' (fun e=>hv (by rw [← e];rfl))).trans e3,rest⟩
theorem q0A {B C:Nat} {s:ByteArray} {v v':Value} {op op':List Nat} {w w0 w1 wz:World} {cs:Array Value} (hC:CtW B C s v op w) (hB:B≤C) (h0:Below w.heap.size w w0) (hL:CtL C v.ownBlock w0 w1) (hBl:Below B w0 w1) (h1:CtW B C s v' op' w1)
 (hX:w1.heap[w.heap.size]? =some (.cells cs 82 (0,0))) (z2:∀ b,b≠w.heap.size→wz.heap[b]? =w1.heap[b]?) (z3:wz.heap.size=w1.heap.size) (z4:∀ n,n≤w.heap.size→Below n w1 wz):
 (∃ v',CtW B C s v' op' wz)∧CtL C v.ownBlock w wz∧Below B w wz:=by
 have hlt:=hC.box.lt;refine ⟨⟨v',h1.other hX z2⟩,⟨by have:=h0.size;have:=hL.size;omega,fun b hb h2 h3=> ?_⟩,(h0.mono (by omega)).trans (hBl.trans (z4 B (by omega)))⟩;rw [z2 b (by omega),hL.block b (by have:=h0.size;omega) h2 h3,h0.block b hb]
theorem q1x {B C:Nat} {s:ByteArray} {v:Value} {op:List Nat} {t:Tok} {w w':World} {e:Ending} (hC:CtW B C s v op w) (hB:B≤C) (ho:q1Z t op=op) (h:TokR t w w' e):CtP B C s v op t w w' e:=
 ⟨h.1,⟨v,by rw [ho];exact hC.keep h.2⟩,CtL.of h.2,h.2.mono (by have:=hC.box.lt;omega)⟩
theorem w_cMark (B C:Nat) (s:ByteArray) (p:Nat) (v:Value) (op:List Nat) (w:World) (hp:p<s.size) (hs:s.size≤1099511627776) (hC:CtW B C s v op w) (hB:B≤C) (hop:∀ x∈op,x≤1099511627776) (hln:op.length≤1099511627776) (hcl:mkW s.data.toList p=[41]→clsB op=false):
 Calls Tryz.prog 105 #[.pointer (some ⟨C,0,none⟩),.int .i64 (p:Int)] w fun e w'=>CtP B C s v op (markT s.data.toList p) w w' e:=by
 have HM:=hQz (fun u=>w_markAt s p u hp (by omega))
 have hml:(mkW s.data.toList p).length≤s.size-p:=by
  have:=mkK_len s.data.toList p 3;rw [q0d] at this;exact this
 have HC:=hQz hC;unfold markT;generalize mkW s.data.toList p=mk at *;by_cases e0:mk=[]
 · subst e0;rw [if_pos rfl];clear hcl;have HC0:=hQz (hC.box.low (q0a w q0c) hC.box.lt);have c0:=HC0.out.c0;unfold q0c at c0;go_enter Tryz.func105,Tryz.ntmps105;go_wp2_with fail;refine (HM.out _).mono ?_;rintro e w1 ⟨rfl,hw1⟩;obtain rfl:=hw1.symm;clear c0;go_wp2_with fail;refine (w_wfault _ _ _).mono ?_;rintro e w1 ⟨rfl,hb1⟩;have hbx:=tbox1 hb1;have HB1:=hQz hbx.2;obtain ⟨kc0,kc1,kc2,kc3,kf0,kf1,kf2,kf3⟩:=q06 hbx.1;have HX:=hQz hbx.1;clear hb1 hbx;go_wp2_with fail;(try simp only [Exit.inBlock,Exit.then])
   generalize hz:((((w1).setCell ⟨w.heap.size,0,none⟩ (.int .i64 0)).setCell ⟨w.heap.size,1,none⟩ (.int .i64 (p:Int))).setCell ⟨w.heap.size,2,none⟩ (.int .i64 0)).setCell ⟨w.heap.size,3,none⟩ (.string ⟨#[]⟩)=wz;obtain ⟨z1,z2,z3,z4⟩:=q0l _ _ _ _ _ _ _ _ _ _ _ HX.out wz hz.symm;obtain ⟨hd0,hd1,hd2,hd3,_⟩:=q06 z1;refine bodyPost_ret (v:= .tuple #[.agg #[.int .i64 0,.int .i64 (p:Int),.int .i64 0,.string ⟨#[]⟩],.int .i64 160]) (by simp [results,Tryz.results105,go_sem,hd0,hd1,hd2,hd3]) rfl ?_;exact q1x HC.out hB rfl ⟨rfl,HB1.out.trans (z4 _ (Nat.le_refl _))⟩
 rw [if_neg e0];by_cases e1:mk=[40]
 · subst e1;clear hcl e0;have HC0:=hQz (hC.box.low (q0a w q0c) hC.box.lt);have c0:=HC0.out.c0;unfold q0c at c0;go_enter Tryz.func105,Tryz.ntmps105;go_wp2_with fail;refine (HM.out _).mono ?_;rintro e w1 ⟨rfl,hw1⟩;obtain rfl:=hw1.symm;clear c0;go_wp2_with fail;have hb0:=q0a w q0c;have hCw:=HC.out.keep hb0;refine (w_countUp B C s v op _ hCw hB hop hln).mono ?_;rintro e w1 ⟨⟨r1,rfl⟩,hcw,hcl,hbl⟩;have hX1:w1.heap[w.heap.size]? =some q0c:=(hcl.block w.heap.size (by simp) (Nat.ne_of_gt HC.out.box.lt) (fun e=>absurd (q15 HC.out.row _ e) (Nat.lt_irrefl _))).trans (heap_alloc_new w q0c);have HX:=hQz hX1;have HCW:=hQz hcw;have HCL:=hQz hcl;have HBL:=hQz hbl;have HB0:=hQz hb0;obtain ⟨kc0,kc1,kc2,kc3,kf0,kf1,kf2,kf3⟩:=q06 hX1;clear hcw hcl hbl hX1 hb0 hCw;go_wp2_with fail;(try simp only [Exit.inBlock,Exit.then])
   generalize hz:((((w1).setCell ⟨w.heap.size,0,none⟩ (.int .i64 10)).setCell ⟨w.heap.size,1,none⟩ (.int .i64 (p:Int))).setCell ⟨w.heap.size,2,none⟩ (.int .i64 ((p:Int)+1))).setCell ⟨w.heap.size,3,none⟩ (.string ⟨#[40]⟩)=wz;obtain ⟨z1,z2,z3,z4⟩:=q0l _ _ _ _ _ _ _ _ _ _ _ HX.out wz hz.symm;obtain ⟨hd0,hd1,hd2,hd3,_⟩:=q06 z1;refine bodyPost_ret (v:= .tuple #[.agg #[.int .i64 10,.int .i64 (p:Int),.int .i64 ((p:Int)+1),.string ⟨#[40]⟩],.int .i64 0]) (by simp [results,Tryz.results105,go_sem,hd0,hd1,hd2,hd3]) rfl ?_;exact ⟨rfl,q0A HC.out hB HB0.out HCL.out HBL.out HCW.out HX.out z2 z3 z4⟩
 by_cases e2:mk=[41]
 · subst e2;have HCS:=hQz (hcl rfl);clear e0 e1 hcl;have HC0:=hQz (hC.box.low (q0a w q0c) hC.box.lt);have c0:=HC0.out.c0;unfold q0c at c0;go_enter Tryz.func105,Tryz.ntmps105;go_wp2_with fail;refine (HM.out _).mono ?_;rintro e w1 ⟨rfl,hw1⟩;obtain rfl:=hw1.symm;clear c0;go_wp2_with fail;have hb0:=q0a w q0c;have hCw:=HC.out.keep hb0;refine (w_countDown B C s v op _ hCw hB hop hln HCS.out).mono ?_;rintro e w1 ⟨⟨r1,rfl⟩,hcw,hcl,hbl⟩;have hX1:w1.heap[w.heap.size]? =some q0c:=(hcl.block w.heap.size (by simp) (Nat.ne_of_gt HC.out.box.lt) (fun e=>absurd (q15 HC.out.row _ e) (Nat.lt_irrefl _))).trans (heap_alloc_new w q0c);have HX:=hQz hX1;have HCW:=hQz hcw;have HCL:=hQz hcl;have HBL:=hQz hbl;have HB0:=hQz hb0;obtain ⟨kc0,kc1,kc2,kc3,kf0,kf1,kf2,kf3⟩:=q06 hX1;clear hcw hcl hbl hX1 hb0 hCw;go_wp2_with fail;(try simp only [Exit.inBlock,Exit.then])
   generalize hz:((((w1).setCell ⟨w.heap.size,0,none⟩ (.int .i64 10)).setCell ⟨w.heap.size,1,none⟩ (.int .i64 (p:Int))).setCell ⟨w.heap.size,2,none⟩ (.int .i64 ((p:Int)+1))).setCell ⟨w.heap.size,3,none⟩ (.string ⟨#[41]⟩)=wz;obtain ⟨z1,z2,z3,z4⟩:=q0l _ _ _ _ _ _ _ _ _ _ _ HX.out wz hz.symm;obtain ⟨hd0,hd1,hd2,hd3,_⟩:=q06 z1;refine bodyPost_ret (v:= .tuple #[.agg #[.int .i64 10,.int .i64 (p:Int),.int .i64 ((p:Int)+1),.string ⟨#[41]⟩],.int .i64 0]) (by simp [results,Tryz.results105,go_sem,hd0,hd1,hd2,hd3]) rfl ?_;exact ⟨rfl,q0A HC.out hB HB0.out HCL.out HBL.out HCW.out HX.out z2 z3 z4⟩
 have hsz:(⟨mk.toArray⟩:ByteArray).size=mk.length:=q1C _
 have HOP:Hid (q1Z ⟨10,p,p+mk.length,mk,0⟩ op=op):=by
  show _=_;unfold q1Z;rw [if_neg (by show ¬ 10=7;decide),if_neg (by show ¬ 10=9;decide),if_neg (fun h=>e1 h.2),if_neg (fun h=>e2 h.2)]
 unfold CtP tokV;dsimp only;have g0:¬ (⟨mk.toArray⟩:ByteArray).toList=[]:=by rw [Lib.toList_data];exact e0
 have g0':(⟨mk.toArray⟩:ByteArray).toList.isEmpty=false:=by rw [List.isEmpty_eq_false_iff];exact g0
 have g1:((⟨mk.toArray⟩:ByteArray).toList==[40])=false:=by rw [Lib.toList_data,bqZ];exact e1
 have g2:((⟨mk.toArray⟩:ByteArray).toList==[41])=false:=by rw [Lib.toList_data,bqZ];exact e2
 generalize (⟨mk.toArray⟩:ByteArray)=tb at *;have HR:Hid (((mk.length:Nat):Int)=(tb.size:Int)):=by show _=_;rw [hsz]
 have HR2:Hid (((p+mk.length:Nat):Int)=(p:Int)+(tb.size:Int)):=by show _=_;rw [hsz];omega
 have hln2:p+tb.size≤s.size:=by omega
 clear hsz e0 e1 e2 hcl hml;have HC0:=hQz (hC.box.low (q0a w q0c) hC.box.lt);have c0:=HC0.out.c0;unfold q0c at c0;go_enter Tryz.func105,Tryz.ntmps105;go_wp2_with fail;refine (HM.out _).mono ?_;rintro e w1 ⟨rfl,hw1⟩;obtain rfl:=hw1.symm;clear c0;obtain ⟨W,hW⟩:∃ W,w.alloc q0c=W:=⟨_,rfl⟩;have hX:=heap_alloc_new w q0c;rw [hW] at hX;have HX:=hQz hX;have hb:=q0a w q0c;rw [hW] at hb;have HB:=hQz hb;obtain ⟨kc0,kc1,kc2,kc3,kf0,kf1,kf2,kf3⟩:=q06 hX;unfold q0c at hW;rw [hW];clear hW hX hb;go_wp2_with fail;(try simp only [Exit.inBlock,Exit.then])
 generalize hz:((((W).setCell ⟨w.heap.size,0,none⟩ (.int .i64 10)).setCell ⟨w.heap.size,1,none⟩ (.int .i64 (p:Int))).setCell ⟨w.heap.size,2,none⟩ (.int .i64 ((p:Int)+(tb.size:Int)))).setCell ⟨w.heap.size,3,none⟩ (.string tb)=wz;obtain ⟨z1,z2,z3,z4⟩:=q0l _ _ _ _ _ _ _ _ _ _ _ HX.out wz hz.symm;obtain ⟨hd0,hd1,hd2,hd3,_⟩:=q06 z1;refine bodyPost_ret (v:= .tuple #[.agg #[.int .i64 10,.int .i64 (p:Int),.int .i64 ((p:Int)+(tb.size:Int)),.string tb],.int .i64 0]) (by simp [results,Tryz.results105,go_sem,hd0,hd1,hd2,hd3]) rfl ?_;refine ⟨by first|(rw [HR.out];first|done|rfl)|(rw [HR2.out];first|done|rfl),?_⟩;rw [HOP.out];exact q0A HC.out hB HB.out (CtL.refl _ _ _) (Below.refl _ _) (HC.out.keep HB.out) HX.out z2 z3 z4
theorem open_name (l:List UInt8) (p:Nat) (op:List Nat):q1Z (nameT l p) op=op:=by
 unfold q1Z nameT
 cases ownB (q0z l p) <;> rfl
theorem open_var (l:List UInt8) (p:Nat) (op:List Nat):q1Z (varT l p) op=op:=by
 unfold varT
 split <;> rfl
theorem open_field (l:List UInt8) (p:Nat) (op:List Nat):q1Z (fieldT l p) op=op:=rfl
theorem open_num (l:List UInt8) (p:Nat) (op:List Nat):q1Z (numT16 l p) op=op:=by
 unfold numT16
 split <;> rfl
theorem mkW_head {l:List UInt8} {p:Nat} (h:mkW l p=[41]) (hp:p<l.length):(l.getD p 0).toNat=41:=by
 have e:=q1w hp;unfold mkW at h;rw [e] at h
 split at h
 · simp at h;exact congrArg UInt8.toNat (show l.getD p 0=41 from h.1)
 · split at h
   · simp at h;exact congrArg UInt8.toNat (show l.getD p 0=41 from h.1)
   · split at h
     · simp at h;exact congrArg UInt8.toNat (show l.getD p 0=41 from h)
     · cases h
theorem cls_ne {op:List Nat} (h:clsB op=true):op≠[]:=fun e=>by rw [e] at h;exact absurd h (by decide)
theorem w_tokA (B C:Nat) (s:ByteArray) (p:Nat) (v:Value) (op:List Nat) (w:World) (hp:p<s.size) (hs:s.size≤1073741824) (hC:CtW B C s v op w) (hB:B≤C) (hop:∀ x∈op,x≤1099511627776) (hln:op.length≤1099511627776) (hE:ErrIn w) (hle:leB s[p]=true):
 Calls Tryz.prog 43 #[.pointer (some ⟨C,0,none⟩),.int .i64 (p:Int)] w fun e w'=>CtP B C s v op (tokW s.data.toList op p) w w' e:=by
 have HLe:=hQz (fun u=>q0Y s[p] u);have HDg:=hQz (fun u=>q1d s[p] u);have HNa:=hQz (fun u=>q11 s (p+1) u (by omega) (by omega));rw [show ((p+1:Nat):Int)=(p:Int)+1 by omega] at HNa;have hgd:=q0v hp;have hb0:=q0a w q0c;have hC0:=hC.keep hb0;have hE0:=hE.keep hb0;have c0:=hC0.box.c0;have hX00:=heap_alloc_new w q0c;have HCl:Hid (∀ w0,CtW B C s v op w0→Calls Tryz.prog 104 #[.pointer (some ⟨C,0,none⟩)] w0 fun e w'=>e= .returned (.bool (clsB op))∧w'=w0):=fun w0 h=>q1q B C s v op w0 h hln;have HC:=hQz hC;have HC0:=hQz hC0;have HB0:=hQz hb0;have HE0:=hQz hE0;have HX0:=hQz hX00;unfold q0c at c0;have hi0:(0:Int)≤(p:Int):=by omega
 have hi1:(p:Int)<(s.size:Int):=by omega
 obtain ⟨xi,hxi⟩:∃ xi:Int,((s[p].toNat:Nat):Int)=xi:=⟨_,rfl⟩;rw [hxi] at HLe HDg;have hlt:p<s.data.toList.length:=by rw [q0d];exact hp
 unfold tokW;rw [hgd];clear hC hC0 hE hE0 hb0 hX00;rw [if_pos hle];rw [hle] at HLe;have HM:Hid (Calls Tryz.prog 98 #[.pointer (some ⟨C,0,none⟩),.int .i64 (p:Int)] (w.alloc q0c) fun e w'=>CtP B C s v op (nameT s.data.toList p) (w.alloc q0c) w' e):=(w_cName s p C v _ hp (by omega) HC0.out.box).mono (fun e w' h=>q1x HC0.out hB (open_name _ _ _) h);unfold q0c at HM HC0 HB0 HX0 HE0;clear HCl HNa HDg;generalize nameT s.data.toList p=t at *;obtain ⟨kd,pa,fi,tx,er⟩:=t;unfold CtP tokV at HM ⊢;dsimp only at HM ⊢;go_enter Tryz.func43,Tryz.ntmps43;go_wp2_with fail;refine (HLe.out _).mono ?_;rintro e wq ⟨rfl,hwq⟩;obtain rfl:=hwq.symm;go_wp2_with fail;refine HM.out.mono ?_;rintro e w1 ⟨rfl,⟨v1,hcw⟩,hcl1,hbl⟩;have hX1:=(hcl1.block w.heap.size (by simp [q0c]) (Nat.ne_of_gt HC.out.box.lt) (fun e=>absurd (q15 HC.out.row _ e) (Nat.lt_irrefl _))).trans HX0.out;have HX:=hQz hX1;have HCW:=hQz hcw;have HCL:=hQz hcl1;have HBL:=hQz hbl;obtain ⟨kc0,kc1,kc2,kc3,kf0,kf1,kf2,kf3⟩:=q06 hX1;clear hcw hcl1 hbl hX1 c0;go_wp2_with fail;(try simp only [Exit.inBlock,Exit.then])
 generalize hz:((((w1).setCell ⟨w.heap.size,0,none⟩ (.int .i64 (kd:Int))).setCell ⟨w.heap.size,1,none⟩ (.int .i64 (pa:Int))).setCell ⟨w.heap.size,2,none⟩ (.int .i64 (fi:Int))).setCell ⟨w.heap.size,3,none⟩ (.string ⟨tx.toArray⟩)=wz;obtain ⟨z1,z2,z3,z4⟩:=q0l _ _ _ _ _ _ _ _ _ _ _ HX.out wz hz.symm;obtain ⟨hd0,hd1,hd2,hd3,_⟩:=q06 z1;refine bodyPost_ret (v:= .tuple #[.agg #[.int .i64 (kd:Int),.int .i64 (pa:Int),.int .i64 (fi:Int),.string ⟨tx.toArray⟩],.int .i64 (er:Int)]) (by simp [results,Tryz.results43,go_sem,hd0,hd1,hd2,hd3]) rfl ?_;exact ⟨rfl,q0A HC.out hB HB0.out HCL.out HBL.out HCW.out HX.out z2 z3 z4⟩
theorem w_tokB (B C:Nat) (s:ByteArray) (p:Nat) (v:Value) (op:List Nat) (w:World) (hp:p<s.size) (hs:s.size≤1073741824) (hC:CtW B C s v op w) (hB:B≤C) (hop:∀ x∈op,x≤1099511627776) (hln:op.length≤1099511627776) (hE:ErrIn w) (hle:leB s[p]=false) (h36:s[p].toNat=36):
 Calls Tryz.prog 43 #[.pointer (some ⟨C,0,none⟩),.int .i64 (p:Int)] w fun e w'=>CtP B C s v op (tokW s.data.toList op p) w w' e:=by
 have HLe:=hQz (fun u=>q0Y s[p] u);have HDg:=hQz (fun u=>q1d s[p] u);have HNa:=hQz (fun u=>q11 s (p+1) u (by omega) (by omega));rw [show ((p+1:Nat):Int)=(p:Int)+1 by omega] at HNa;have hgd:=q0v hp;have hb0:=q0a w q0c;have hC0:=hC.keep hb0;have hE0:=hE.keep hb0;have c0:=hC0.box.c0;have hX00:=heap_alloc_new w q0c;have HCl:Hid (∀ w0,CtW B C s v op w0→Calls Tryz.prog 104 #[.pointer (some ⟨C,0,none⟩)] w0 fun e w'=>e= .returned (.bool (clsB op))∧w'=w0):=fun w0 h=>q1q B C s v op w0 h hln;have HC:=hQz hC;have HC0:=hQz hC0;have HB0:=hQz hb0;have HE0:=hQz hE0;have HX0:=hQz hX00;unfold q0c at c0;have hi0:(0:Int)≤(p:Int):=by omega
 have hi1:(p:Int)<(s.size:Int):=by omega
 obtain ⟨xi,hxi⟩:∃ xi:Int,((s[p].toNat:Nat):Int)=xi:=⟨_,rfl⟩;rw [hxi] at HLe HDg;have hlt:p<s.data.toList.length:=by rw [q0d];exact hp
 unfold tokW;rw [hgd];clear hC hC0 hE hE0 hb0 hX00;rw [if_neg (by rw [hle];decide)];rw [hle] at HLe;rw [if_pos h36];obtain rfl:36=xi:=by omega
 have HM:Hid (Calls Tryz.prog 99 #[.pointer (some ⟨C,0,none⟩),.int .i64 (p:Int)] (w.alloc q0c) fun e w'=>CtP B C s v op (varT s.data.toList p) (w.alloc q0c) w' e):=(w_cVar s p C v _ hp (by omega) HC0.out.box).mono (fun e w' h=>q1x HC0.out hB (open_var _ _ _) h);unfold q0c at HM HC0 HB0 HX0 HE0;clear HCl HNa HDg;generalize varT s.data.toList p=t at *;obtain ⟨kd,pa,fi,tx,er⟩:=t;unfold CtP tokV at HM ⊢;dsimp only at HM ⊢;go_enter Tryz.func43,Tryz.ntmps43;go_wp2_with fail;refine (HLe.out _).mono ?_;rintro e wq ⟨rfl,hwq⟩;obtain rfl:=hwq.symm;go_wp2_with fail;refine HM.out.mono ?_;rintro e w1 ⟨rfl,⟨v1,hcw⟩,hcl1,hbl⟩;have hX1:=(hcl1.block w.heap.size (by simp [q0c]) (Nat.ne_of_gt HC.out.box.lt) (fun e=>absurd (q15 HC.out.row _ e) (Nat.lt_irrefl _))).trans HX0.out;have HX:=hQz hX1;have HCW:=hQz hcw;have HCL:=hQz hcl1;have HBL:=hQz hbl;obtain ⟨kc0,kc1,kc2,kc3,kf0,kf1,kf2,kf3⟩:=q06 hX1;clear hcw hcl1 hbl hX1 c0;go_wp2_with fail;(try simp only [Exit.inBlock,Exit.then])
 generalize hz:((((w1).setCell ⟨w.heap.size,0,none⟩ (.int .i64 (kd:Int))).setCell ⟨w.heap.size,1,none⟩ (.int .i64 (pa:Int))).setCell ⟨w.heap.size,2,none⟩ (.int .i64 (fi:Int))).setCell ⟨w.heap.size,3,none⟩ (.string ⟨tx.toArray⟩)=wz;obtain ⟨z1,z2,z3,z4⟩:=q0l _ _ _ _ _ _ _ _ _ _ _ HX.out wz hz.symm;obtain ⟨hd0,hd1,hd2,hd3,_⟩:=q06 z1;refine bodyPost_ret (v:= .tuple #[.agg #[.int .i64 (kd:Int),.int .i64 (pa:Int),.int .i64 (fi:Int),.string ⟨tx.toArray⟩],.int .i64 (er:Int)]) (by simp [results,Tryz.results43,go_sem,hd0,hd1,hd2,hd3]) rfl ?_;exact ⟨rfl,q0A HC.out hB HB0.out HCL.out HBL.out HCW.out HX.out z2 z3 z4⟩
theorem w_tokC (B C:Nat) (s:ByteArray) (p:Nat) (v:Value) (op:List Nat) (w:World) (hp:p<s.size) (hs:s.size≤1073741824) (hC:CtW B C s v op w) (hB:B≤C) (hop:∀ x∈op,x≤1099511627776) (hln:op.length≤1099511627776) (hE:ErrIn w) (hle:leB s[p]=false) (h46:s[p].toNat=46) (hnm:q0z s.data.toList (p+1)≠[]):
 Calls Tryz.prog 43 #[.pointer (some ⟨C,0,none⟩),.int .i64 (p:Int)] w fun e w'=>CtP B C s v op (tokW s.data.toList op p) w w' e:=by
 have HLe:=hQz (fun u=>q0Y s[p] u);have HDg:=hQz (fun u=>q1d s[p] u);have HNa:=hQz (fun u=>q11 s (p+1) u (by omega) (by omega));rw [show ((p+1:Nat):Int)=(p:Int)+1 by omega] at HNa;have hgd:=q0v hp;have hb0:=q0a w q0c;have hC0:=hC.keep hb0;have hE0:=hE.keep hb0;have c0:=hC0.box.c0;have hX00:=heap_alloc_new w q0c;have HCl:Hid (∀ w0,CtW B C s v op w0→Calls Tryz.prog 104 #[.pointer (some ⟨C,0,none⟩)] w0 fun e w'=>e= .returned (.bool (clsB op))∧w'=w0):=fun w0 h=>q1q B C s v op w0 h hln;have HC:=hQz hC;have HC0:=hQz hC0;have HB0:=hQz hb0;have HE0:=hQz hE0;have HX0:=hQz hX00;unfold q0c at c0;have hi0:(0:Int)≤(p:Int):=by omega
 have hi1:(p:Int)<(s.size:Int):=by omega
 obtain ⟨xi,hxi⟩:∃ xi:Int,((s[p].toNat:Nat):Int)=xi:=⟨_,rfl⟩;rw [hxi] at HLe HDg;have hlt:p<s.data.toList.length:=by rw [q0d];exact hp
 unfold tokW;rw [hgd];clear hC hC0 hE hE0 hb0 hX00;rw [if_neg (by rw [hle];decide)];rw [hle] at HLe;rw [if_neg (by omega),if_pos ⟨h46,hnm⟩];obtain rfl:46=xi:=by omega
 have HM:Hid (Calls Tryz.prog 100 #[.pointer (some ⟨C,0,none⟩),.int .i64 (p:Int)] (w.alloc q0c) fun e w'=>CtP B C s v op (fieldT s.data.toList p) (w.alloc q0c) w' e):=(w_cField s p C v _ hp (by omega) HC0.out.box).mono (fun e w' h=>q1x HC0.out hB (open_field _ _ _) h);unfold q0c at HM HC0 HB0 HX0 HE0;clear HCl HDg;have g0:¬ (⟨(q0z s.data.toList (p+1)).toArray⟩:ByteArray).toList=[]:=by rw [Lib.toList_data];exact hnm
 have g0':(⟨(q0z s.data.toList (p+1)).toArray⟩:ByteArray).toList.isEmpty=false:=by rw [List.isEmpty_eq_false_iff];exact g0
 generalize (⟨(q0z s.data.toList (p+1)).toArray⟩:ByteArray)=tb at *;generalize fieldT s.data.toList p=t at *;obtain ⟨kd,pa,fi,tx,er⟩:=t;unfold CtP tokV at HM ⊢;dsimp only at HM ⊢;go_enter Tryz.func43,Tryz.ntmps43;go_wp2_with fail;refine (HLe.out _).mono ?_;rintro e wq ⟨rfl,hwq⟩;obtain rfl:=hwq.symm;go_wp2_with fail;refine (HNa.out _).mono ?_;rintro e wq ⟨rfl,hwq⟩;obtain rfl:=hwq.symm;go_wp2_with fail;refine HM.out.mono ?_;rintro e w1 ⟨rfl,⟨v1,hcw⟩,hcl1,hbl⟩;have hX1:=(hcl1.block w.heap.size (by simp [q0c]) (Nat.ne_of_gt HC.out.box.lt) (fun e=>absurd (q15 HC.out.row _ e) (Nat.lt_irrefl _))).trans HX0.out;have HX:=hQz hX1;have HCW:=hQz hcw;have HCL:=hQz hcl1;have HBL:=hQz hbl;obtain ⟨kc0,kc1,kc2,kc3,kf0,kf1,kf2,kf3⟩:=q06 hX1;clear hcw hcl1 hbl hX1 c0;go_wp2_with fail;(try simp only [Exit.inBlock,Exit.then])
 generalize hz:((((w1).setCell ⟨w.heap.size,0,none⟩ (.int .i64 (kd:Int))).setCell ⟨w.heap.size,1,none⟩ (.int .i64 (pa:Int))).setCell ⟨w.heap.size,2,none⟩ (.int .i64 (fi:Int))).setCell ⟨w.heap.size,3,none⟩ (.string ⟨tx.toArray⟩)=wz;obtain ⟨z1,z2,z3,z4⟩:=q0l _ _ _ _ _ _ _ _ _ _ _ HX.out wz hz.symm;obtain ⟨hd0,hd1,hd2,hd3,_⟩:=q06 z1;refine bodyPost_ret (v:= .tuple #[.agg #[.int .i64 (kd:Int),.int .i64 (pa:Int),.int .i64 (fi:Int),.string ⟨tx.toArray⟩],.int .i64 (er:Int)]) (by simp [results,Tryz.results43,go_sem,hd0,hd1,hd2,hd3]) rfl ?_;exact ⟨rfl,q0A HC.out hB HB0.out HCL.out HBL.out HCW.out HX.out z2 z3 z4⟩
theorem w_tokD (B C:Nat) (s:ByteArray) (p:Nat) (v:Value) (op:List Nat) (w:World) (hp:p<s.size) (hs:s.size≤1073741824) (hC:CtW B C s v op w) (hB:B≤C) (hop:∀ x∈op,x≤1099511627776) (hln:op.length≤1099511627776) (hE:ErrIn w) (hle:leB s[p]=false) (h46:s[p].toNat=46) (hnm:q0z s.data.toList (p+1)=[]):
 Calls Tryz.prog 43 #[.pointer (some ⟨C,0,none⟩),.int .i64 (p:Int)] w fun e w'=>CtP B C s v op (tokW s.data.toList op p) w w' e:=by
 have HLe:=hQz (fun u=>q0Y s[p] u);have HDg:=hQz (fun u=>q1d s[p] u);have HNa:=hQz (fun u=>q11 s (p+1) u (by omega) (by omega));rw [show ((p+1:Nat):Int)=(p:Int)+1 by omega] at HNa;have hgd:=q0v hp;have hb0:=q0a w q0c;have hC0:=hC.keep hb0;have hE0:=hE.keep hb0;have c0:=hC0.box.c0;have hX00:=heap_alloc_new w q0c;have HCl:Hid (∀ w0,CtW B C s v op w0→Calls Tryz.prog 104 #[.pointer (some ⟨C,0,none⟩)] w0 fun e w'=>e= .returned (.bool (clsB op))∧w'=w0):=fun w0 h=>q1q B C s v op w0 h hln;have HC:=hQz hC;have HC0:=hQz hC0;have HB0:=hQz hb0;have HE0:=hQz hE0;have HX0:=hQz hX00;unfold q0c at c0;have hi0:(0:Int)≤(p:Int):=by omega
 have hi1:(p:Int)<(s.size:Int):=by omega
 obtain ⟨xi,hxi⟩:∃ xi:Int,((s[p].toNat:Nat):Int)=xi:=⟨_,rfl⟩;rw [hxi] at HLe HDg;have hlt:p<s.data.toList.length:=by rw [q0d];exact hp
 unfold tokW;rw [hgd];clear hC hC0 hE hE0 hb0 hX00;rw [if_neg (by rw [hle];decide)];rw [hle] at HLe;have hdg:dgB s[p]=false:=by unfold dgB;exact decide_eq_false (by omega)
 rw [if_neg (by omega),if_neg (fun h=>h.2 hnm),if_neg (by rw [hdg];decide),if_neg (by omega),if_neg (by omega)];rw [hdg] at HDg;rw [hnm] at HNa;obtain rfl:46=xi:=by omega
 have HM:Hid (Calls Tryz.prog 105 #[.pointer (some ⟨C,0,none⟩),.int .i64 (p:Int)] (w.alloc q0c) fun e w'=>CtP B C s v op (markT s.data.toList p) (w.alloc q0c) w' e):=w_cMark B C s p v op _ hp (by omega) HC0.out hB hop hln (fun h=>by have:=mkW_head h hlt;rw [hgd] at this;omega);unfold q0c at HM HC0 HB0 HX0 HE0;clear HCl;generalize markT s.data.toList p=t at *;obtain ⟨kd,pa,fi,tx,er⟩:=t;unfold CtP tokV at HM ⊢;dsimp only at HM ⊢;go_enter Tryz.func43,Tryz.ntmps43;go_wp2_with fail;refine (HLe.out _).mono ?_;rintro e wq ⟨rfl,hwq⟩;obtain rfl:=hwq.symm;go_wp2_with fail;refine (HNa.out _).mono ?_;rintro e wq ⟨rfl,hwq⟩;obtain rfl:=hwq.symm;go_wp2_with fail;refine (HDg.out _).mono ?_;rintro e wq ⟨rfl,hwq⟩;obtain rfl:=hwq.symm;go_wp2_with fail;refine HM.out.mono ?_;rintro e w1 ⟨rfl,⟨v1,hcw⟩,hcl1,hbl⟩;have hX1:=(hcl1.block w.heap.size (by simp [q0c]) (Nat.ne_of_gt HC.out.box.lt) (fun e=>absurd (q15 HC.out.row _ e) (Nat.lt_irrefl _))).trans HX0.out;have HX:=hQz hX1;have HCW:=hQz hcw;have HCL:=hQz hcl1;have HBL:=hQz hbl;obtain ⟨kc0,kc1,kc2,kc3,kf0,kf1,kf2,kf3⟩:=q06 hX1;clear hcw hcl1 hbl hX1 c0;go_wp2_with fail;(try simp only [Exit.inBlock,Exit.then])
 generalize hz:((((w1).setCell ⟨w.heap.size,0,none⟩ (.int .i64 (kd:Int))).setCell ⟨w.heap.size,1,none⟩ (.int .i64 (pa:Int))).setCell ⟨w.heap.size,2,none⟩ (.int .i64 (fi:Int))).setCell ⟨w.heap.size,3,none⟩ (.string ⟨tx.toArray⟩)=wz;obtain ⟨z1,z2,z3,z4⟩:=q0l _ _ _ _ _ _ _ _ _ _ _ HX.out wz hz.symm;obtain ⟨hd0,hd1,hd2,hd3,_⟩:=q06 z1;refine bodyPost_ret (v:= .tuple #[.agg #[.int .i64 (kd:Int),.int .i64 (pa:Int),.int .i64 (fi:Int),.string ⟨tx.toArray⟩],.int .i64 (er:Int)]) (by simp [results,Tryz.results43,go_sem,hd0,hd1,hd2,hd3]) rfl ?_;exact ⟨rfl,q0A HC.out hB HB0.out HCL.out HBL.out HCW.out HX.out z2 z3 z4⟩
end Go.Proofs.YtdjleoglphgdgaaGreatDoor
