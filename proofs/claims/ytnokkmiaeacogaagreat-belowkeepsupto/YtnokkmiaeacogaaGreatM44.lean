import Derived.Test.YtnokkmiaeacogaaGreatM43
import Derived.Test.YtnokkmiaeacogaaGreatM39
import Derived.Test.YtnokkmiaeacogaaGreatM38
set_option linter.unusedVariables false
set_option linter.unusedSimpArgs false
namespace Go.Proofs.YtnokkmiaeacogaaGreat
open Go.RowKit Go.Shelf Go.Sort
attribute [local go_sem] Oper.semAt_some
set_option maxRecDepth 100000
set_option maxHeartbeats 12800000
theorem any_up' {α:Type} {l:List α} {f: α→Bool} {k:Nat} (hk:k<l.length):(l.take (k+1)).any f=((l.take k).any f||f l[k]):=by
 rw [List.take_add_one,List.getElem?_eq_getElem hk,List.any_append];simp
theorem robj_step (h:Nat) (xs ys:List OB) (f:OB→OB→Bool) (sa sb sc sd:Bool) (seo:Option Addr) (sen sec:Nat) (sf:Bool) (sgo:Option Addr) (sgn sgc:Nat) (sio:Option Addr) (sinn sic:Nat) (sjo:Option Addr) (sjn sjc:Nat) (ta tb tc td:Bool) (teo:Option Addr) (ten tec:Nat) (tf:Bool) (tgo:Option Addr) (tgn tgc:Nat) (tio:Option Addr) (tinn tic:Nat) (tjo:Option Addr) (tjn tjc:Nat) (w:World) (hox:ObIn w h sjo xs) (hoy:ObIn w h tjo ys) (lx:xs.length=sjn) (ly:ys.length=tjn) (cx:sjn≤sjc) (cy:tjn≤tjc) (bx:sjn≤140737488355328) (by_:tjn≤140737488355328)
 (HIO:Hid (∀ (i:Nat) (hi:i<xs.length) (j:Nat) (hj:j<ys.length) (ko:Option Addr) (kc:Nat) (fo:Option Addr) (fc:Nat) (mo:Option Addr) (mc:Nat) (c0 c1 c2 c3 c4 c5 c6 c7 c8:Value) (ko2:Option Addr) (kc2:Nat) (fo2:Option Addr) (fc2:Nat) (mo2:Option Addr) (mc2:Nat) (d0 d1 d2 d3 d4 d5 d6 d7 d8:Value) (u:World),Below w.heap.size w u→InO u h xs[i] ko kc fo fc mo mc c0 c1 c2 c3 c4 c5 c6 c7 c8→InO u h ys[j] ko2 kc2 fo2 fc2 mo2 mc2 d0 d1 d2 d3 d4 d5 d6 d7 d8→Calls Tryz.prog 102 #[.agg #[.slice ko xs[i].names.length kc,.slice fo xs[i].fields.length fc,.slice mo xs[i].must.length mc,c0,c1,c2,c3,c4,c5,c6,c7,c8],.agg #[.slice ko2 ys[j].names.length kc2,.slice fo2 ys[j].fields.length fc2,.slice mo2 ys[j].must.length mc2,d0,d1,d2,d3,d4,d5,d6,d7,d8]] u fun e w'=>e= .returned (.bool (f xs[i] ys[j]))∧Below u.heap.size u w')):
 Calls Tryz.prog 55 #[.agg #[.bool sa,.bool sb,.bool sc,.bool sd,.slice seo sen sec,.bool sf,.slice sgo sgn sgc,.slice sio sinn sic,.slice sjo sjn sjc],.agg #[.bool ta,.bool tb,.bool tc,.bool td,.slice teo ten tec,.bool tf,.slice tgo tgn tgc,.slice tio tinn tic,.slice tjo tjn tjc]] w fun e w'=>e= .returned (.bool (xs.all fun a=>ys.any (f a)))∧Below w.heap.size w w':=by
 have HX:=hQz (q0b w #[.bool sa,.bool sb,.bool sc,.bool sd,.slice seo sen sec,.bool sf,.slice sgo sgn sgc,.slice sio sinn sic,.slice sjo sjn sjc] #[.bool ta,.bool tb,.bool tc,.bool td,.slice teo ten tec,.bool tf,.slice tgo tgn tgc,.slice tio tinn tic,.slice tjo tjn tjc] 27);obtain ⟨W0,hW0⟩:∃ W0,(w.alloc (.cells #[.bool sa,.bool sb,.bool sc,.bool sd,.slice seo sen sec,.bool sf,.slice sgo sgn sgc,.slice sio sinn sic,.slice sjo sjn sjc] 27)).alloc (.cells #[.bool ta,.bool tb,.bool tc,.bool td,.slice teo ten tec,.bool tf,.slice tgo tgn tgc,.slice tio tinn tic,.slice tjo tjn tjc] 27)=W0:=⟨_,rfl⟩;rw [hW0] at HX;have HOX:=hQz hox;have HOY:=hQz hoy;have HMx:=hQz lx;have HMy:=hQz ly;obtain ⟨R,hR⟩:∃ R,(xs.all fun a=>ys.any (f a))=R:=⟨_,rfl⟩;have HR:Hid (R=xs.all fun a=>ys.any (f a)):=hR.symm;rw [hR];clear hR hox hoy lx ly;go_enter Tryz.func55,Tryz.ntmps55;go_wp2_with fail
 try rw [hW0]
 clear hW0
 go_loopw [5] (fun i wr=>∃ k:Nat,k≤sjn∧i= .int .i64 (k:Int)∧Hid (Bx2 w wr #[.bool sa,.bool sb,.bool sc,.bool sd,.slice seo sen sec,.bool sf,.slice sgo sgn sgc,.slice sio sinn sic,.slice sjo sjn sjc] #[.bool ta,.bool tb,.bool tc,.bool td,.slice teo ten tec,.bool tf,.slice tgo tgn tgc,.slice tio tinn tic,.slice tjo tjn tjc])∧Hid ((xs.take k).all (fun a=>ys.any (f a))=true)) (fun i _=>sjn-(intOf i).toNat)
 case atStart=>exact ⟨0,Nat.zero_le _,rfl,HX,rfl⟩
 case round=>
  clear HX;obtain ⟨k,hk,rfl,HX,HQ⟩:=hrel;have p8:wr.cell? ⟨w.heap.size,8,none⟩=some (.slice sjo sjn sjc):=HX.out.one 8;by_cases hlt:k<sjn
  · have hl1:(k:Int)<(sjn:Int):=by omega
    have hl0:(0:Int)≤(k:Int):=by omega
    have hka:k<xs.length:=by rw [HMx.out];exact hlt
    go_wp2_with fail;clear p8
    go_loopw [6,7] (fun fv i wr=>∃ (j:Nat) (fd:Bool),j≤tjn∧fv= .bool fd∧i= .int .i64 (j:Int)∧Hid (Bx2 w wr #[.bool sa,.bool sb,.bool sc,.bool sd,.slice seo sen sec,.bool sf,.slice sgo sgn sgc,.slice sio sinn sic,.slice sjo sjn sjc] #[.bool ta,.bool tb,.bool tc,.bool td,.slice teo ten tec,.bool tf,.slice tgo tgn tgc,.slice tio tinn tic,.slice tjo tjn tjc])∧Hid ((ys.take j).any (f xs[k])=fd)) (fun _ i _=>tjn-(intOf i).toNat)
    case atStart=>exact ⟨0,false,Nat.zero_le _,rfl,rfl,HX,rfl⟩
    case round=>
     clear HX;obtain ⟨j,fd,hj,rfl,rfl,HX2,HQ2⟩:=hrel;have p8:wr.cell? ⟨w.heap.size,8,none⟩=some (.slice sjo sjn sjc):=HX2.out.one 8;have q8:wr.cell? ⟨w.heap.size+1,8,none⟩=some (.slice tjo tjn tjc):=HX2.out.two 8;by_cases hjl:j<tjn
     · have hj1:(j:Int)<(tjn:Int):=by omega
       have hj0:(0:Int)≤(j:Int):=by omega
       have hja:j<ys.length:=by rw [HMy.out];exact hjl
       obtain ⟨xb,xoff,hxb,lxb,rowxb⟩:=(HOX.out.keep HX2.out.below).row (by omega);subst hxb;obtain ⟨ko,kc,fo,fc,mo,mc,xu0,xu1,xu2,xu3,xu4,xu5,xu6,xu7,xu8,⟨x0,x1,x2⟩,⟨x3,x4,x5,x6,x7,x8,x9,x10,x11⟩,htxb⟩:=rowxb k hka;have hrxb:=htxb.rest;obtain ⟨ma,mb,mc,md,⟨meo,men,mec⟩,mf,⟨mgo,mgn,mgc⟩,⟨mio,minn,mic⟩,⟨mjo,mjn,mjc⟩,eshxb⟩:=q02 hrxb;simp only [Value.agg.injEq,Array.mk.injEq,List.cons.injEq,and_true] at eshxb;obtain ⟨rfl,rfl,rfl,rfl,rfl,rfl,rfl,rfl,rfl⟩:=eshxb;replace x4:wr.cell? ⟨xb,xoff+k*12+4,none⟩=_:=x4;replace x5:wr.cell? ⟨xb,xoff+k*12+5,none⟩=_:=x5;replace x6:wr.cell? ⟨xb,xoff+k*12+6,none⟩=_:=x6;replace x7:wr.cell? ⟨xb,xoff+k*12+7,none⟩=_:=x7;replace x8:wr.cell? ⟨xb,xoff+k*12+8,none⟩=_:=x8;replace x9:wr.cell? ⟨xb,xoff+k*12+9,none⟩=_:=x9;replace x10:wr.cell? ⟨xb,xoff+k*12+10,none⟩=_:=x10;replace x11:wr.cell? ⟨xb,xoff+k*12+11,none⟩=_:=x11;obtain ⟨yb,yoff,hyb,lyb,rowyb⟩:=(HOY.out.keep HX2.out.below).row (by omega);subst hyb;obtain ⟨ko2,kc2,fo2,fc2,mo2,mc2,yu0,yu1,yu2,yu3,yu4,yu5,yu6,yu7,yu8,⟨y0,y1,y2⟩,⟨y3,y4,y5,y6,y7,y8,y9,y10,y11⟩,htyb⟩:=rowyb j hja;have hryb:=htyb.rest;obtain ⟨na,nb,nc,nd,⟨neo,nen,nec⟩,nf,⟨ngo,ngn,ngc⟩,⟨nio,ninn,nic⟩,⟨njo,njn,njc⟩,eshyb⟩:=q02 hryb;simp only [Value.agg.injEq,Array.mk.injEq,List.cons.injEq,and_true] at eshyb;obtain ⟨rfl,rfl,rfl,rfl,rfl,rfl,rfl,rfl,rfl⟩:=eshyb;replace y4:wr.cell? ⟨yb,yoff+j*12+4,none⟩=_:=y4;replace y5:wr.cell? ⟨yb,yoff+j*12+5,none⟩=_:=y5;replace y6:wr.cell? ⟨yb,yoff+j*12+6,none⟩=_:=y6;replace y7:wr.cell? ⟨yb,yoff+j*12+7,none⟩=_:=y7;replace y8:wr.cell? ⟨yb,yoff+j*12+8,none⟩=_:=y8;replace y9:wr.cell? ⟨yb,yoff+j*12+9,none⟩=_:=y9;replace y10:wr.cell? ⟨yb,yoff+j*12+10,none⟩=_:=y10;replace y11:wr.cell? ⟨yb,yoff+j*12+11,none⟩=_:=y11;have HC:=hQz (fun (d:Nat) (os':Array Obj)=>HIO.out k hka j hja _ _ _ _ _ _ _ _ _ _ _ _ _ _ _ _ _ _ _ _ _ _ _ _ _ _ _ _ _ _ (grow (redrawn wr d) os') (HX2.out.below.trans ((below_regrown wr d os').mono HX2.out.below.size)) (htxb.keep (below_regrown wr d os')) (htyb.keep (below_regrown wr d os')));have HU:=hQz (any_up' (f:=f xs[k]) hja);obtain ⟨r,hr⟩:∃ r,f xs[k] ys[j]=r:=⟨_,rfl⟩
       rw [hr] at HU HC;rw [HQ2.out] at HU;generalize xs[k].names.length=K1 at x0 HC;generalize xs[k].fields.length=K2 at x1 HC;generalize xs[k].must.length=K3 at x2 HC;generalize ys[j].names.length=L1 at y0 HC;generalize ys[j].fields.length=L2 at y1 HC;generalize ys[j].must.length=L3 at y2 HC;clear hr rowxb rowyb htxb htyb hrxb hryb;have Ax0:=fun d os=>cell_regrown x0 d os;have Ax1:=fun d os=>cell_regrown x1 d os;have Ax2:=fun d os=>cell_regrown x2 d os;have Ax3:=fun d os=>cell_regrown x3 d os;have Ax4:=fun d os=>cell_regrown x4 d os;have Ax5:=fun d os=>cell_regrown x5 d os;have Ax6:=fun d os=>cell_regrown x6 d os;have Ax7:=fun d os=>cell_regrown x7 d os;have Ax8:=fun d os=>cell_regrown x8 d os;have Ax9:=fun d os=>cell_regrown x9 d os;have Ax10:=fun d os=>cell_regrown x10 d os;have Ax11:=fun d os=>cell_regrown x11 d os;have Ay0:=fun d os=>cell_regrown y0 d os;have Ay1:=fun d os=>cell_regrown y1 d os;have Ay2:=fun d os=>cell_regrown y2 d os;have Ay3:=fun d os=>cell_regrown y3 d os;have Ay4:=fun d os=>cell_regrown y4 d os;have Ay5:=fun d os=>cell_regrown y5 d os;have Ay6:=fun d os=>cell_regrown y6 d os;have Ay7:=fun d os=>cell_regrown y7 d os;have Ay8:=fun d os=>cell_regrown y8 d os;have Ay9:=fun d os=>cell_regrown y9 d os;have Ay10:=fun d os=>cell_regrown y10 d os;have Ay11:=fun d os=>cell_regrown y11 d os;have Ap8:=fun d os=>cell_regrown p8 d os;have Aq8:=fun d os=>cell_regrown q8 d os
       cases r with
       | true=>
        have HN:Hid ((ys.take (j+1)).any (f xs[k])=true):=by show _=_;rw [HU.out];simp
        clear HU HQ2;go_wp2_with fail;refine wp_region_quiet_below (by kernel_rfl) (by kernel_rfl) ?_
        repeat (go_big_quiet_step (exact Calls.regrown_of (HC.out _ _)))
        refine wpQuiet_nil ?_;intro w9 hw'
        have hb9:Below wr.heap.size wr w9:=by
         obtain ⟨⟨dq,osq⟩,rfl⟩:=hw';exact below_regrown wr dq osq
        have HX9:=hQz (HX2.out.keep hb9);clear hw' hb9;clear Ap8 Aq8 Ax0 Ay0 Ax1 Ay1 Ax2 Ay2 Ax3 Ay3 Ax4 Ay4 Ax5 Ay5 Ax6 Ay6 Ax7 Ay7 Ax8 Ay8 Ax9 Ay9 Ax10 Ay10 Ax11 Ay11;go_wp2_with fail;go_roundw
        case rel=>exact ⟨j+1,true,hjl,rfl,by go_num,HX9,HN⟩
        case measure=>simp [intOf];omega
       | false=>
        have HN:Hid ((ys.take (j+1)).any (f xs[k])=fd):=by show _=_;rw [HU.out];simp
        clear HU HQ2;go_wp2_with fail;refine wp_region_quiet_below (by kernel_rfl) (by kernel_rfl) ?_
        repeat (go_big_quiet_step (exact Calls.regrown_of (HC.out _ _)))
        refine wpQuiet_nil ?_;intro w9 hw'
        have hb9:Below wr.heap.size wr w9:=by
         obtain ⟨⟨dq,osq⟩,rfl⟩:=hw';exact below_regrown wr dq osq
        have HX9:=hQz (HX2.out.keep hb9);clear hw' hb9;clear Ap8 Aq8 Ax0 Ay0 Ax1 Ay1 Ax2 Ay2 Ax3 Ay3 Ax4 Ay4 Ax5 Ay5 Ax6 Ay6 Ax7 Ay7 Ax8 Ay8 Ax9 Ay9 Ax10 Ay10 Ax11 Ay11;go_wp2_with fail;go_roundw
        case rel=>exact ⟨j+1,fd,hjl,rfl,by go_num,HX9,HN⟩
        case measure=>simp [intOf];omega
     · have hj1:¬ (j:Int)<(tjn:Int):=by omega
       have HE:Hid (ys.any (f xs[k])=fd):=by
        show _=_;have h:=HQ2.out;rw [List.take_of_length_le (by rw [HMy.out];omega)] at h;exact h
       cases fd with
       | true=>
        have HN:Hid ((xs.take (k+1)).all (fun a=>ys.any (f a))=true):=by show _=_;rw [q0x (f:=fun a=>ys.any (f a)) hka,HQ.out,HE.out];rfl
        go_wp2_with fail;go_roundw
        case rel=>exact ⟨k+1,hlt,by go_num,HX2,HN⟩
        case measure=>simp [intOf];omega
       | false=>
        have HF:Hid (R=false):=by show _=_;rw [HR.out,q0A (f:=fun a=>ys.any (f a)) hka HE.out]
        go_wp2_with fail;go_ret;exact ⟨by rw [HF.out];rfl,HX2.out.below⟩
  · have hl1:¬ (k:Int)<(sjn:Int):=by omega
    have HF:Hid (R=true):=by
     show _=_;have h:=HQ.out;rw [List.take_of_length_le (by rw [HMx.out];omega)] at h;rw [HR.out];exact h
    go_wp2_with fail;go_ret;exact ⟨by rw [HF.out];rfl,HX.out.below⟩
end Go.Proofs.YtnokkmiaeacogaaGreat
namespace Go.Proofs.YtnokkmiaeacogaaGreat
open Go.RowKit Go.Shelf Go.Sort
set_option maxRecDepth 100000
set_option maxHeartbeats 12800000
def RbOk (h:Nat):Prop:=∀ (A B:TT) (va vb:Value) (u:World),InT u h A va→InT u h B vb→fmN h A=true→fmN h B=true→tpN h A≤1048576→tpN h B≤1048576→Calls Tryz.prog 13 #[va,vb] u fun e w'=>e= .returned (.bool (bwN h A B))∧Below u.heap.size u w'
def obT (h:Nat) (o:OB):Nat:=o.names.length+o.must.length+tpN h o.rest+sumL (o.fields.map (tpN h))
theorem fld_tp {h:Nat} {o:OB} (ok:OkO o) (ht:obT h o≤1048576) (s:ByteArray):tpN h (fldO o s).1≤1048576:=by
 unfold obT at ht;rcases fld_mem ok s with e|e
 · rw [e];omega
 · have:=q0s (List.mem_map.2 ⟨_,e,rfl⟩:tpN h (fldO o s).1∈o.fields.map (tpN h));omega
theorem tp_arr {h:Nat} {T:TT} (ht:tpN (h+1) T≤1048576):∀ a∈T.arrs,tpN h a.item≤1048576:=fun a ha=>by
 have ht':1+T.texts.length+T.nums.length+sumL (T.arrs.map fun a=>tpN h a.item)+sumL (T.objs.map fun o=>o.names.length+o.must.length+tpN h o.rest+sumL (o.fields.map (tpN h)))≤1048576:=ht;have:tpN h a.item≤sumL (T.arrs.map fun a=>tpN h a.item):=q0s (List.mem_map.2 ⟨a,ha,rfl⟩);omega
theorem tp_obj {h:Nat} {T:TT} (ht:tpN (h+1) T≤1048576):∀ o∈T.objs,obT h o≤1048576:=fun o ho=>by
 have ht':1+T.texts.length+T.nums.length+sumL (T.arrs.map fun a=>tpN h a.item)+sumL (T.objs.map fun o=>o.names.length+o.must.length+tpN h o.rest+sumL (o.fields.map (tpN h)))≤1048576:=ht;have:obT h o≤sumL (T.objs.map fun o=>o.names.length+o.must.length+tpN h o.rest+sumL (o.fields.map (tpN h))):=q0s (List.mem_map.2 ⟨o,ho,rfl⟩);omega
theorem w_rLies (h:Nat) (ih:RbOk h) (a b:OB) (ko:Option Addr) (kc:Nat) (fo:Option Addr) (fc:Nat) (mo:Option Addr) (mc:Nat) (c0 c1 c2 c3 c4 c5 c6 c7 c8:Value) (ko2:Option Addr) (kc2:Nat) (fo2:Option Addr) (fc2:Nat) (mo2:Option Addr) (mc2:Nat) (d0 d1 d2 d3 d4 d5 d6 d7 d8:Value) (w:World)
 (hA:InO w h a ko kc fo fc mo mc c0 c1 c2 c3 c4 c5 c6 c7 c8) (hB:InO w h b ko2 kc2 fo2 fc2 mo2 mc2 d0 d1 d2 d3 d4 d5 d6 d7 d8) (oa:obOk (fmN h) a=true) (ob:obOk (fmN h) b=true) (ta:obT h a≤1048576) (tb:obT h b≤1048576):
 Calls Tryz.prog 102 #[.agg #[.slice ko a.names.length kc,.slice fo a.fields.length fc,.slice mo a.must.length mc,c0,c1,c2,c3,c4,c5,c6,c7,c8],.agg #[.slice ko2 b.names.length kc2,.slice fo2 b.fields.length fc2,.slice mo2 b.must.length mc2,d0,d1,d2,d3,d4,d5,d6,d7,d8]] w fun e w'=>e= .returned (.bool (obX (bwN h) a b))∧Below w.heap.size w w':=by
 obtain ⟨ka,ra,_⟩:=q0U oa;obtain ⟨kb,rb,_⟩:=q0U ob;obtain ⟨sa,sb,sc,sd,⟨seo,sen,sec⟩,sf,⟨sgo,sgn,sgc⟩,⟨sio,sinn,sic⟩,⟨sjo,sjn,sjc⟩,esh⟩:=q02 hA.rest;simp only [Value.agg.injEq,Array.mk.injEq,List.cons.injEq,and_true] at esh;obtain ⟨rfl,rfl,rfl,rfl,rfl,rfl,rfl,rfl,rfl⟩:=esh;obtain ⟨ta',tb',tc,td,⟨teo,ten,tec⟩,tf,⟨tgo,tgn,tgc⟩,⟨tio,tinn,tic⟩,⟨tjo,tjn,tjc⟩,esh⟩:=q02 hB.rest;simp only [Value.agg.injEq,Array.mk.injEq,List.cons.injEq,and_true] at esh;obtain ⟨rfl,rfl,rfl,rfl,rfl,rfl,rfl,rfl,rfl⟩:=esh;have na:a.names.length≤1048576:=by unfold obT at ta;omega
 have nb:b.names.length≤1048576:=by unfold obT at tb;omega
 have ra':tpN h a.rest≤1048576:=by unfold obT at ta;omega
 have rb':tpN h b.rest≤1048576:=by unfold obT at tb;omega
 unfold obX
 refine rlies_step h (a.names.length+b.names.length) a.names.length b.names.length a.fields.length b.fields.length a.must.length b.must.length ko kc fo fc mo mc ko2 kc2 fo2 fc2 mo2 mc2 _ _ _ _ _ _ _ _ _ _ _ _ _ _ _ _ _ _ _ _ _ _ _ _ _ _ _ _ _ _ _ _ _ _ (a.names++b.names) (fldO a) (fldO b) (bwN h) (bwN h a.rest b.rest) w (List.length_append) (by omega)
  (hQz fun u hu=>w_rNames _ _ _ _ _ _ _ _ _ _ _ _ _ _ _ _ _ _ _ _ _ _ _ _ _ _ _ _ _ _ _ _ _ _ _ _ _ _ _ _ _ _ _ _ _ _ _ _ _ _ _ _ a.names b.names u (hA.nm.keep hu) (hB.nm.keep hu) rfl rfl hA.caps.1 hB.caps.1 na nb)
  (hQz fun s u hu=> ?_) (hQz fun s u hu=> ?_)
  (hQz fun s u vx vy hu hx hy=>ih _ _ vx vy u hx hy (fld_fm oa s) (fld_fm ob s) (fld_tp ka ta s) (fld_tp kb tb s))
  (hQz fun u hu=>ih a.rest b.rest _ _ u (hA.rest.keep hu) (hB.rest.keep hu) ra rb ra' rb')
 · have hx:=w_rField h a s a.names.length ko kc fo fc mo mc _ _ _ _ _ _ _ _ _ _ _ _ _ _ _ _ _ w u hu hA rfl ka.fl.symm ka.ml.symm;rw [ka.fl.symm,ka.ml.symm];exact hx
 · have hx:=w_rField h b s b.names.length ko2 kc2 fo2 fc2 mo2 mc2 _ _ _ _ _ _ _ _ _ _ _ _ _ _ _ _ _ w u hu hB rfl kb.fl.symm kb.ml.symm;rw [kb.fl.symm,kb.ml.symm];exact hx
theorem q0w {w:World} {h:Nat} {T:TT} {v:Value} (hI:InT w (h+1) T v):∃ (no:Option Addr) (nc:Nat) (xo:Option Addr) (xc:Nat) (ao:Option Addr) (ac:Nat) (oo:Option Addr) (oc:Nat),v= .agg #[.bool T.all,.bool T.nul,.bool T.fls,.bool T.tru,.slice no T.nums.length nc,.bool T.any,.slice xo T.texts.length xc,.slice ao T.arrs.length ac,.slice oo T.objs.length oc]∧ObIn w h oo T.objs∧T.objs.length≤oc∧T.objs.length≤140737488355328∧ArIn w h ao T.arrs∧T.arrs.length≤ac∧T.arrs.length≤140737488355328∧SpIn w no T.nums∧T.nums.length≤nc∧∀ p∈T.nums,p.1.size≤140737488355328∧p.2.size≤140737488355328:=by
 obtain ⟨no,nc,xo,xc,ao,ac,oo,oc,ev,⟨a1,a2,a3,a4⟩,⟨a5,a6,a7,a8⟩,zn,_,hs,hk,ha,ho⟩:=hI;refine ⟨no,nc,xo,xc,ao,ac,oo,oc,ev,⟨fun h0=> ?_⟩,a4,a8,⟨ha⟩,a3,a7,hs,a1,zn⟩;obtain ⟨b,off,e,hl,hc⟩:=ho h0;refine ⟨b,off,e,hl,fun i hi=> ?_⟩;obtain ⟨ko,kc,fo,fc,mo,mc,c0,c1,c2,c3,c4,c5,c6,c7,c8,g,k1,k2,k3,k4,k5,k6,k7⟩:=hc i hi;exact ⟨ko,kc,fo,fc,mo,mc,c0,c1,c2,c3,c4,c5,c6,c7,c8,g,k1,⟨k2,k3,k4,k5,k6,k7⟩⟩
theorem w_robs12 (h:Nat) (A B:TT) (va vb:Value) (w:World) (hA:InT w (h+1) A va) (hB:InT w (h+1) B vb) (ih:0<B.objs.length→RbOk h) (fa:∀ o∈A.objs,obOk (fmN h) o=true) (fb:∀ o∈B.objs,obOk (fmN h) o=true) (ta:∀ o∈A.objs,obT h o≤1048576) (tb:∀ o∈B.objs,obT h o≤1048576):
 Calls Tryz.prog 55 #[va,vb] w fun e w'=>e= .returned (.bool (obL (bwN h) A.objs B.objs))∧Below w.heap.size w w':=by
 obtain ⟨no,nc,xo,xc,ao,ac,oo,oc,rfl,ox,c1,l1,_⟩:=q0w hA;obtain ⟨no2,nc2,xo2,xc2,ao2,ac2,oo2,oc2,rfl,oy,c2,l2,_⟩:=q0w hB
 exact robj_step h A.objs B.objs (obX (bwN h)) _ _ _ _ _ _ _ _ _ _ _ _ _ _ _ _ _ _ _ _ _ _ _ _ _ _ _ _ _ _ _ _ _ _ w ox oy rfl rfl c1 c2 l1 l2
  (hQz fun i hi j hj ko kc fo fc mo mc c0 c1 c2 c3 c4 c5 c6 c7 c8 ko2 kc2 fo2 fc2 mo2 mc2 d0 d1 d2 d3 d4 d5 d6 d7 d8 u hu a b=>w_rLies h (ih (by omega)) _ _ _ _ _ _ _ _ _ _ _ _ _ _ _ _ _ _ _ _ _ _ _ _ _ _ _ _ _ _ _ _ u a b (fa _ (List.getElem_mem _)) (fb _ (List.getElem_mem _)) (ta _ (List.getElem_mem _)) (tb _ (List.getElem_mem _)))
theorem w_rarrs12 (h:Nat) (A B:TT) (va vb:Value) (w:World) (hA:InT w (h+1) A va) (hB:InT w (h+1) B vb) (ih:0<B.arrs.length→RbOk h) (fa:arB (fmN h) A.arrs=true) (fb:arB (fmN h) B.arrs=true) (ta:∀ a∈A.arrs,tpN h a.item≤1048576) (tb:∀ a∈B.arrs,tpN h a.item≤1048576):
 Calls Tryz.prog 54 #[va,vb] w fun e w'=>e= .returned (.bool (arL (bwN h) A.arrs B.arrs))∧Below w.heap.size w w':=by
 obtain ⟨no,nc,xo,xc,ao,ac,oo,oc,rfl,_,_,_,hx,c1,l1,_⟩:=q0w hA;obtain ⟨no2,nc2,xo2,xc2,ao2,ac2,oo2,oc2,rfl,_,_,_,hy,c2,l2,_⟩:=q0w hB;rcases ar_one fa with ea|⟨x,ea,a1⟩
 · have key:=rarr_none A.all A.nul A.fls A.tru no A.nums.length nc A.any xo A.texts.length xc ao A.arrs.length ac oo A.objs.length oc B.all B.nul B.fls B.tru no2 B.nums.length nc2 B.any xo2 B.texts.length xc2 ao2 B.arrs.length ac2 oo2 B.objs.length oc2 w (.inl (by rw [ea];rfl)) l1 l2;have e:decide (A.arrs.length=0)=arL (bwN h) A.arrs B.arrs:=by rw [ea];rfl
   rw [e] at key;exact key
 · rcases ar_one fb with eb|⟨y,eb,b1⟩
   · have key:=rarr_none A.all A.nul A.fls A.tru no A.nums.length nc A.any xo A.texts.length xc ao A.arrs.length ac oo A.objs.length oc B.all B.nul B.fls B.tru no2 B.nums.length nc2 B.any xo2 B.texts.length xc2 ao2 B.arrs.length ac2 oo2 B.objs.length oc2 w (.inr ⟨by rw [ea];simp,by rw [eb];rfl⟩) l1 l2;have e:decide (A.arrs.length=0)=arL (bwN h) A.arrs B.arrs:=by rw [ea,eb];rfl
     rw [e] at key;exact key
   · obtain ⟨xb,xoff,hxo,lxb,hxr⟩:=hx.row (by rw [ea];simp);obtain ⟨yb,yoff,hyo,lyb,hyr⟩:=hy.row (by rw [eb];simp);obtain ⟨c0,c1',c2',c3,c4,c5,c6,c7,c8,h1,h2,h3,h4⟩:=hxr 0 (by rw [ea];simp);obtain ⟨d0,d1,d2,d3,d4,d5,d6,d7,d8,k1,k2,k3,k4⟩:=hyr 0 (by rw [eb];simp);simp only [ea,List.getElem_cons_zero,Nat.zero_mul,Nat.add_zero] at h1 h2 h3 h4;simp only [eb,List.getElem_cons_zero,Nat.zero_mul,Nat.add_zero] at k1 k2 k3 k4;obtain ⟨ma,mb,mc,md,⟨meo,men,mec⟩,mf,⟨mgo,mgn,mgc⟩,⟨mio,minn,mic⟩,⟨mjo,mjn,mjc⟩,esh⟩:=q02 h4;simp only [Value.agg.injEq,Array.mk.injEq,List.cons.injEq,and_true] at esh;obtain ⟨rfl,rfl,rfl,rfl,rfl,rfl,rfl,rfl,rfl⟩:=esh;obtain ⟨na,nb,nc3,nd,⟨neo,nen,nec⟩,nf,⟨ngo,ngn,ngc⟩,⟨nio,ninn,nic⟩,⟨njo,njn,njc⟩,esh⟩:=q02 k4;simp only [Value.agg.injEq,Array.mk.injEq,List.cons.injEq,and_true] at esh;obtain ⟨rfl,rfl,rfl,rfl,rfl,rfl,rfl,rfl,rfl⟩:=esh;subst hxo hyo;have hbx:tpN h x.item≤1048576:=ta x (by rw [ea];exact List.mem_singleton.2 rfl);have hby:tpN h y.item≤1048576:=tb y (by rw [eb];exact List.mem_singleton.2 rfl)
     have key:=rarr_both A.all A.nul A.fls A.tru no A.nums.length nc A.any xo A.texts.length xc none A.arrs.length ac oo A.objs.length oc B.all B.nul B.fls B.tru no2 B.nums.length nc2 B.any xo2 B.texts.length xc2 none B.arrs.length ac2 oo2 B.objs.length oc2
      ma mb mc md meo men mec mf mgo mgn mgc mio minn mic mjo mjn mjc na nb nc3 nd neo nen nec nf ngo ngn ngc nio ninn nic njo njn njc xb xoff yb yoff x.min x.max y.min y.max (bwN h x.item y.item) w l1 l2 (by rw [ea];simp) (by rw [eb];simp) c1 c2
      h1.c0 h1.c1 h1.c2 h1.c3 h1.c4 h1.c5 h1.c6 h1.c7 h1.c8 h2 h3 k1.c0 k1.c1 k1.c2 k1.c3 k1.c4 k1.c5 k1.c6 k1.c7 k1.c8 k2 k3
      (hQz fun u hu=>ih (by rw [eb];simp) x.item y.item _ _ u (h4.keep hu) (k4.keep hu) a1 b1 hbx hby)
     have e:arA x.min x.max y.min y.max (bwN h x.item y.item)=arL (bwN h) A.arrs B.arrs:=by rw [ea,eb];rfl
     rw [e] at key;exact key
theorem sp_cases {l:List (ByteArray × ByteArray)} (h:spB l=true):(l=[]∧l.length=0)∨∃ p,l=[p]∧l.length=1:=by
 rcases sp_one h with e|⟨p,e,_⟩
 · exact .inl ⟨e,by rw [e];rfl⟩
 · exact .inr ⟨p,e,by rw [e];rfl⟩
theorem sp_okS {l:List (ByteArray × ByteArray)} (h:spB l=true) (hz:∀ p∈l,p.1.size≤140737488355328∧p.2.size≤140737488355328):∀ p∈l,okS p:=fun p hp=>by
 rcases sp_one h with e|⟨q,e,b1,b2⟩
 · rw [e] at hp;cases hp
 · have hp':=hp;rw [e] at hp';obtain rfl:p=q:=List.mem_singleton.1 hp';exact ⟨⟨b1,b2⟩,hz p hp⟩
theorem rb_k (H:Nat) (X B:TT) (va vb:Value) (w:World) (hB:InT w (H+1) B vb) (hsh:∃ (sa sb sc sd:Bool) (seo:Option Addr) (sen sec:Nat) (sf:Bool) (sgo:Option Addr) (sgn sgc:Nat) (sio:Option Addr) (sinn sic:Nat) (sjo:Option Addr) (sjn sjc:Nat),va= .agg #[.bool sa,.bool sb,.bool sc,.bool sd,.slice seo sen sec,.bool sf,.slice sgo sgn sgc,.slice sio sinn sic,.slice sjo sjn sjc]) (nb:B.all=false)
 (ih:0<B.arrs.length∨0<B.objs.length→RbOk H) (fX:fmN (H+1) X=true) (fB:fmN (H+1) B=true) (tX:tpN (H+1) X≤1048576) (tB:tpN (H+1) B≤1048576) (zX:∀ p∈X.nums,p.1.size≤140737488355328∧p.2.size≤140737488355328)
 (HN:∀ u,Below w.heap.size w u→Calls Tryz.prog 50 #[va] u fun e w'=>e= .returned (.bool false)∧Below u.heap.size u w')
 (HL:∀ u,Below w.heap.size w u→Calls Tryz.prog 51 #[va] u fun e w'=>(∃ v,e= .returned v∧InT w' (H+1) X v)∧Below u.heap.size u w'):
 Calls Tryz.prog 13 #[va,vb] w fun e w'=>e= .returned (.bool (bwK (bwN H) X B))∧Below w.heap.size w w':=by
 obtain ⟨sa,sb,sc,sd,seo,sen,sec,sf,sgo,sgn,sgc,sio,sinn,sic,sjo,sjn,sjc,rfl⟩:=hsh;have hB0:=hB;obtain ⟨no2,nc2,xo2,xc2,ao2,ac2,oo2,oc2,rfl,_,_,_,_,_,_,sB,cB,zB⟩:=q0w hB0;rw [nb] at hB ⊢;obtain ⟨_,x2,x3,x4,_,_⟩:=fm_open fX;obtain ⟨_,b2,b3,b4,_,_⟩:=fm_open fB
 exact rb_main _ _ _ _ _ _ _ _ _ _ _ _ _ _ _ _ _ B.nul B.fls B.tru no2 B.nums.length nc2 B.any xo2 B.texts.length xc2 ao2 B.arrs.length ac2 oo2 B.objs.length oc2 w (fun u v=>InT u (H+1) X v) X.nul X.fls X.tru (txL X B) (arL (bwN H) X.arrs B.arrs) (obL (bwN H) X.objs B.objs) X.nums.length X.nums B.nums
  (hQz HN)
  (hQz fun u hu=>(HL u hu).mono fun e w' ⟨⟨v,he,hx⟩,hb⟩=>by
   obtain ⟨no,nc,xo,xc,ao,ac,oo,oc,rfl,_,_,_,_,_,_,sX,cX,_⟩:=q0w hx;exact ⟨⟨X.all,no,nc,X.any,xo,X.texts.length,xc,ao,X.arrs.length,ac,oo,X.objs.length,oc,he,hx,sX,cX⟩,hb⟩)
  (hQz fun u u' v hx hb=>hx.keep hb)
  (hQz fun u v hx hu=>w_rtexts H H X B _ _ u hx (hB.keep hu))
  (hQz fun u v hx hu=>w_rarrs12 H X B _ _ u hx (hB.keep hu) (fun h0=>ih (.inl h0)) x3 b3 (tp_arr tX) (tp_arr tB))
  (hQz fun u v hx hu=>w_robs12 H X B _ _ u hx (hB.keep hu) (fun h0=>ih (.inr h0)) x4 b4 (tp_obj tX) (tp_obj tB))
  (hQz (sp_cases x2)) (hQz (sp_cases b2)) sB cB (hQz (sp_okS x2 zX)) (hQz (sp_okS b2 zB))
  (hQz fun p q hp hq u=>w_rSpan _ _ _ _ u hp.2.1 hp.2.2 hq.2.1 hq.2.2 hp.1.1 hp.1.2 hq.1.1 hq.1.2)
theorem bw_never {h:Nat} {A B:TT} (hn:A.never=true):bwN (h+1) A B=true:=by
 unfold TT.never at hn;rw [Bool.and_eq_true,Bool.not_eq_true'] at hn;obtain ⟨h1,h2,h3,h4,h5,h6,h7,h8⟩:=bare_iff.1 hn.2;rw [bwN,laid_none hn.1];unfold bwK flL;rw [h1,h2,h3,h5,h7,h8];have e:txL A B=true:=txL_iff.2 (.inr ⟨h4,fun s hs=>by rw [h6] at hs;cases hs⟩);rw [e];simp [spL,arL,obL]
theorem tp_laid (m:Nat):tpN (m+2) laidT≤1048576:=by
 have e:∀ m,tpN (m+1) ttEv=1:=fun m=>by simp [tpN,ttEv,TT.texts,TT.nums,TT.arrs,TT.objs,sumL]
 have:tpN (m+2) laidT≤10:=by
  show 1+0+1+sumL [tpN (m+1) ttEv]+sumL [0+0+tpN (m+1) ttEv+sumL []]≤10;rw [e];simp [sumL]
 omega
theorem zn_laid:∀ p∈laidT.nums,p.1.size≤140737488355328∧p.2.size≤140737488355328:=fun p hp=>by
 obtain rfl:p=(.empty,.empty):=List.mem_singleton.1 hp;exact ⟨by decide,by decide⟩
theorem w_rBelow:∀ h,RbOk h
 | 0=>fun A B va vb u hA hB fa fb ta tb=>by cases fa
 | h+1=>fun A B va vb u hA hB fa fb ta tb=>by
  have ih:=w_rBelow h;have HNv:=fun w2 (hu:Below u.heap.size u w2)=>w_rNever (h+1) A va w2 (hA.keep hu);obtain ⟨sa,sb,sc,sd,⟨seo,sen,sec⟩,sf,⟨sgo,sgn,sgc⟩,⟨sio,sinn,sic⟩,⟨sjo,sjn,sjc⟩,rfl⟩:=q02 hA
  cases hb:B.all with
  | true=>
   have e:bwN (h+1) A B=true:=by rw [bwN,hb];rfl
   rw [e];obtain ⟨no2,nc2,xo2,xc2,ao2,ac2,oo2,oc2,rfl,_⟩:=q0w hB;rw [hb];exact rb_every _ _ _ _ _ _ _ _ _ _ _ _ _ _ _ _ _ true _ _ _ _ _ _ _ _ _ _ _ _ _ _ _ _ u A.never (hQz HNv)
  | false=>
   cases hn:A.never with
   | true=>
    rw [bw_never hn];rw [hn] at HNv;obtain ⟨no2,nc2,xo2,xc2,ao2,ac2,oo2,oc2,rfl,_⟩:=q0w hB;exact rb_never _ _ _ _ _ _ _ _ _ _ _ _ _ _ _ _ _ _ _ _ _ _ _ _ _ _ _ _ _ _ _ _ _ _ u (hQz HNv)
   | false=>
    rw [hn] at HNv;rw [bwN,hb,Bool.false_or]
    have hall:sa=A.all:=by
     obtain ⟨_,_,_,_,_,_,_,_,ev,_⟩:=q0w hA;simp only [Value.agg.injEq,Array.mk.injEq,List.cons.injEq,Value.bool.injEq,and_true] at ev;exact ev.1
    cases ha:A.all with
    | false=>
     rw [ha] at hall;subst hall;rw [laid_none ha];exact rb_k h A B _ _ u hB ⟨_,_,_,_,_,_,_,_,_,_,_,_,_,_,_,_,_,rfl⟩ hb (fun _=>ih) fa fb ta tb (by obtain ⟨_,_,_,_,_,_,_,_,_,_,_,_,_,_,_,_,_,z⟩:=q0w hA;exact z) HNv (fun w2 hu=>(laid_plain _ _ _ _ _ _ _ _ _ _ _ _ _ _ _ _ w2).mono fun e w' ⟨he,hq⟩=>⟨⟨_,he,(hA.keep hu).keep hq⟩,hq⟩)
    | true=>
     rw [ha] at hall;subst hall;rw [laid_all ha]
     cases h with
     | zero=>
      obtain ⟨no2,nc2,xo2,xc2,ao2,ac2,oo2,oc2,ev,oB,_,_,aB,_⟩:=q0w hB
      have e1:B.arrs=[]:=by
       cases e:B.arrs with
       | nil=>rfl
       | cons y l=>
        obtain ⟨_,_,_,_,hc⟩:=aB.row (by rw [e];simp);obtain ⟨_,_,_,_,_,_,_,_,_,_,_,_,hf⟩:=hc 0 (by rw [e];simp);exact hf.elim
      have e2:B.objs=[]:=by
       cases e:B.objs with
       | nil=>rfl
       | cons y l=>
        obtain ⟨_,_,_,_,hc⟩:=oB.row (by rw [e];simp);obtain ⟨_,_,_,_,_,_,_,_,_,_,_,_,_,_,_,_,_,hf⟩:=hc 0 (by rw [e];simp);exact hf.rest.elim
      have key:=rb_k 1 laidT B _ _ u (hB.le (by omega)) ⟨_,_,_,_,_,_,_,_,_,_,_,_,_,_,_,_,_,rfl⟩ hb (fun hh=>by rw [e1,e2] at hh;simp at hh) (fm_laid 0) (fm_le' fb (by omega)) (tp_laid 0) (by rw [hB.tpUp (by omega)];exact tb) zn_laid HNv (fun w2 hu=>(laid_every sb sc sd seo sen sec sf sgo sgn sgc sio sinn sic sjo sjn sjc 0 w2).mono fun e w' ⟨⟨b1,b2,b3,he,hx⟩,hq⟩=>⟨⟨_,he,hx⟩,hq⟩);rw [bwK_none e1] at key ⊢;exact key
     | succ m=>
      exact rb_k (m+1) laidT B _ _ u hB ⟨_,_,_,_,_,_,_,_,_,_,_,_,_,_,_,_,_,rfl⟩ hb (fun _=>ih) (fm_laid m) fb (tp_laid m) tb zn_laid HNv (fun w2 hu=>(laid_every sb sc sd seo sen sec sf sgo sgn sgc sio sinn sic sjo sjn sjc m w2).mono fun e w' ⟨⟨b1,b2,b3,he,hx⟩,hq⟩=>⟨⟨_,he,hx⟩,hq⟩)
end Go.Proofs.YtnokkmiaeacogaaGreat
