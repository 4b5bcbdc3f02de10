import Derived.Test.YtnokkmiaeacogaaGreatM33
import Derived.Test.YtnokkmiaeacogaaGreatM30
import Derived.Test.YtnokkmiaeacogaaGreatM34
import Derived.Test.YtnokkmiaeacogaaGreatM31
import Derived.Lib.QuietBelow
import Derived.BigQuiet
import Derived.Deep.Cut
set_option linter.unusedVariables false
set_option linter.unusedSimpArgs false
namespace Go.Proofs.YtnokkmiaeacogaaGreat
open Go.RowKit Go.Shelf Go.Sort
attribute [local go_sem] Oper.semAt_some
set_option maxRecDepth 100000
set_option maxHeartbeats 12800000
theorem any_lie1 (oo:Option Addr) (N oc:Nat) (rs:Nat→Bool) (B:Nat) (w:World) (hc:N≤oc) (hN2:N≤140737488355328) (HR:Hid (0<N→∃ b off,oo=some ⟨b,off,none⟩))
 (HC:Hid (∀ b off,oo=some ⟨b,off,none⟩→∀ k,k<N→∀ u,Below w.heap.size w u→Calls Tryz.prog 137 #[.pointer (some ⟨b,off+k*12,none⟩),.pointer (some ⟨B,0,none⟩)] u fun e w'=>e= .returned (.bool (rs k))∧Below u.heap.size u w')):
 Calls Tryz.prog 138 #[.slice oo N oc,.func (.func 137) #[] #[.pointer (some ⟨B,0,none⟩)]] w fun e w'=>e= .returned (.bool ((List.range N).any rs))∧Below w.heap.size w w':=by
 go_enter Tryz.func138,Tryz.ntmps138;go_wp2_with fail
 go_loopw [8] (fun i wr=>∃ k:Nat,k≤N∧i= .int .i64 (k:Int)∧Hid (Below w.heap.size w wr)∧Hid ((List.range k).any rs=false)) (fun i _=>N-(intOf i).toNat)
 case atStart=>exact ⟨0,Nat.zero_le _,rfl,Below.refl _ _,rfl⟩
 case round=>
  obtain ⟨k,hk,rfl,HB,HQ⟩:=hrel;by_cases hlt:k<N
  · have hl1:(k:Int)<(N:Int):=by omega
    have hl0:(0:Int)≤(k:Int):=by omega
    obtain ⟨b,off,hso⟩:=HR.out (by omega);subst hso;have HC1:=hQz (HC.out b off rfl k hlt wr HB.out)
    cases hrk:rs k with
    | true=>
     rw [hrk] at HC1;have HY:Hid ((List.range N).any rs=true):=List.any_eq_true.2 ⟨k,List.mem_range.2 hlt,hrk⟩;clear hrk;go_wp2_with fail;refine HC1.out.mono ?_;rintro e w2 ⟨rfl,hq⟩;have HB2:=hQz (HB.out.trans (hq.mono HB.out.size));clear hq;go_wp2_with fail;go_ret;exact ⟨by rw [HY.out];rfl,HB2.out⟩
    | false=>
     rw [hrk] at HC1;have HN:Hid ((List.range (k+1)).any rs=false):=by show _=_;rw [List.range_succ,List.any_append,HQ.out];simp [hrk]
     clear hrk;go_wp2_with fail;refine HC1.out.mono ?_;rintro e w2 ⟨rfl,hq⟩;have HB2:=hQz (HB.out.trans (hq.mono HB.out.size));clear hq;go_wp2_with fail;go_roundw
     case rel=>exact ⟨k+1,hlt,by go_num,HB2,HN⟩
     case measure=>simp [intOf];omega
  · obtain rfl:k=N:=by omega
    have hl1:¬ (k:Int)<(k:Int):=by omega
    go_wp2_with fail;go_ret;exact ⟨by rw [HQ.out];rfl,HB.out⟩
theorem any_lie2 (oo:Option Addr) (N oc:Nat) (rs:Nat→Bool) (B:Nat) (w:World) (hc:N≤oc) (hN2:N≤140737488355328) (HR:Hid (0<N→∃ b off,oo=some ⟨b,off,none⟩))
 (HC:Hid (∀ b off,oo=some ⟨b,off,none⟩→∀ k,k<N→∀ u,Below w.heap.size w u→Calls Tryz.prog 139 #[.pointer (some ⟨b,off+k*12,none⟩),.pointer (some ⟨B,0,none⟩)] u fun e w'=>e= .returned (.bool (rs k))∧Below u.heap.size u w')):
 Calls Tryz.prog 138 #[.slice oo N oc,.func (.func 139) #[] #[.pointer (some ⟨B,0,none⟩)]] w fun e w'=>e= .returned (.bool ((List.range N).any rs))∧Below w.heap.size w w':=by
 go_enter Tryz.func138,Tryz.ntmps138;go_wp2_with fail
 go_loopw [8] (fun i wr=>∃ k:Nat,k≤N∧i= .int .i64 (k:Int)∧Hid (Below w.heap.size w wr)∧Hid ((List.range k).any rs=false)) (fun i _=>N-(intOf i).toNat)
 case atStart=>exact ⟨0,Nat.zero_le _,rfl,Below.refl _ _,rfl⟩
 case round=>
  obtain ⟨k,hk,rfl,HB,HQ⟩:=hrel;by_cases hlt:k<N
  · have hl1:(k:Int)<(N:Int):=by omega
    have hl0:(0:Int)≤(k:Int):=by omega
    obtain ⟨b,off,hso⟩:=HR.out (by omega);subst hso;have HC1:=hQz (HC.out b off rfl k hlt wr HB.out)
    cases hrk:rs k with
    | true=>
     rw [hrk] at HC1;have HY:Hid ((List.range N).any rs=true):=List.any_eq_true.2 ⟨k,List.mem_range.2 hlt,hrk⟩;clear hrk;go_wp2_with fail;refine HC1.out.mono ?_;rintro e w2 ⟨rfl,hq⟩;have HB2:=hQz (HB.out.trans (hq.mono HB.out.size));clear hq;go_wp2_with fail;go_ret;exact ⟨by rw [HY.out];rfl,HB2.out⟩
    | false=>
     rw [hrk] at HC1;have HN:Hid ((List.range (k+1)).any rs=false):=by show _=_;rw [List.range_succ,List.any_append,HQ.out];simp [hrk]
     clear hrk;go_wp2_with fail;refine HC1.out.mono ?_;rintro e w2 ⟨rfl,hq⟩;have HB2:=hQz (HB.out.trans (hq.mono HB.out.size));clear hq;go_wp2_with fail;go_roundw
     case rel=>exact ⟨k+1,hlt,by go_num,HB2,HN⟩
     case measure=>simp [intOf];omega
  · obtain rfl:k=N:=by omega
    have hl1:¬ (k:Int)<(k:Int):=by omega
    go_wp2_with fail;go_ret;exact ⟨by rw [HQ.out];rfl,HB.out⟩
theorem fits_lie (b1 o1 b2 o2:Nat) (xm ym r:Bool) (w:World) (HC:Hid (∀ u,Below w.heap.size w u→Calls Tryz.prog 19 #[.pointer (some ⟨b1,o1,none⟩),.pointer (some ⟨b2,o2,none⟩)] u fun e w'=>e= .returned (.bool r)∧Below u.heap.size u w')):
 Calls Tryz.prog 152 #[.agg #[.pointer (some ⟨b1,o1,none⟩),.bool xm],.agg #[.pointer (some ⟨b2,o2,none⟩),.bool ym]] w fun e w'=>e= .returned (.bool ((xm|| !ym)&&r))∧Below w.heap.size w w':=by
 have HX:=hQz (q0b w #[.pointer (some ⟨b1,o1,none⟩),.bool xm] #[.pointer (some ⟨b2,o2,none⟩),.bool ym] 195);obtain ⟨W0,hW0⟩:∃ W0,(w.alloc (.cells #[.pointer (some ⟨b1,o1,none⟩),.bool xm] 195)).alloc (.cells #[.pointer (some ⟨b2,o2,none⟩),.bool ym] 195)=W0:=⟨_,rfl⟩;rw [hW0] at HX;have p0:W0.cell? ⟨w.heap.size,0,none⟩=some (.pointer (some ⟨b1,o1,none⟩)):=HX.out.one 0;have p1:W0.cell? ⟨w.heap.size,1,none⟩=some (.bool xm):=HX.out.one 1;have q0:W0.cell? ⟨w.heap.size+1,0,none⟩=some (.pointer (some ⟨b2,o2,none⟩)):=HX.out.two 0;have q1:W0.cell? ⟨w.heap.size+1,1,none⟩=some (.bool ym):=HX.out.two 1
 cases xm with
 | true=>
  go_enter Tryz.func152,Tryz.ntmps152;go_wp2_with fail;refine (HC.out _ HX.out.below).mono ?_;rintro e w2 ⟨rfl,hq⟩;have HB2:=hQz (HX.out.below.trans (hq.mono HX.out.below.size));clear hq;go_wp2_with fail;go_ret;exact ⟨by first|rfl|simp,HB2.out⟩
 | false=>
  cases ym with
  | true=>
   go_enter Tryz.func152,Tryz.ntmps152;go_wp2_with fail;go_ret;exact ⟨by first|rfl|simp,HX.out.below⟩
  | false=>
   go_enter Tryz.func152,Tryz.ntmps152;go_wp2_with fail;refine (HC.out _ HX.out.below).mono ?_;rintro e w2 ⟨rfl,hq⟩;have HB2:=hQz (HX.out.below.trans (hq.mono HX.out.below.size));clear hq;go_wp2_with fail;go_ret;exact ⟨by first|rfl|simp,HB2.out⟩
def LsOk (h:Nat):Prop:=∀ (A B:TT) (ba oa bb ob:Nat) (u:World),PtT u h A ba oa→PtT u h B bb ob→fmN h A=true→fmN h B=true→Calls Tryz.prog 19 #[.pointer (some ⟨ba,oa,none⟩),.pointer (some ⟨bb,ob,none⟩)] u fun e w'=>e= .returned (.bool (bwN h A B))∧Below u.heap.size u w'
theorem obj_lie_v (ba oa bb ob:Nat) (m r:Bool) (w:World)
 (H1:Hid (∀ u,Below w.heap.size w u→Calls Tryz.prog 153 #[.pointer (some ⟨ba,oa,none⟩),.pointer (some ⟨bb,ob,none⟩),.func (.func 152) #[] #[]] u fun e w'=>e= .returned (.bool m)∧Below u.heap.size u w'))
 (H2:Hid (∀ u,Below w.heap.size w u→Calls Tryz.prog 19 #[.pointer (some ⟨ba,oa+3,none⟩),.pointer (some ⟨bb,ob+3,none⟩)] u fun e w'=>e= .returned (.bool r)∧Below u.heap.size u w')):
 Calls Tryz.prog 140 #[.pointer (some ⟨ba,oa,none⟩),.pointer (some ⟨bb,ob,none⟩)] w fun e w'=>e= .returned (.bool (m&&r))∧Below w.heap.size w w':=by
 have HC1:=hQz (fun (d:Nat) (os:Array Obj)=>H1.out (grow (redrawn w d) os) (below_regrown w d os));have HC2:=hQz (fun (d:Nat) (os:Array Obj)=>H2.out (grow (redrawn w d) os) (below_regrown w d os))
 cases m with
 | true=>
  go_enter Tryz.func140,Tryz.ntmps140;go_wp2_with fail;refine wp_region_quiet_below (by kernel_rfl) (by kernel_rfl) ?_
  repeat (go_big_quiet_step (first|exact Calls.regrown_of (HC1.out _ _)|exact Calls.regrown_of (HC2.out _ _)))
  refine wpQuiet_nil ?_;intro w9 hw'
  have hbw9:Below w.heap.size w w9:=by
   obtain ⟨⟨dq,osq⟩,rfl⟩:=hw';exact below_regrown w dq osq
  clear hw';go_wp2_with fail;go_ret;exact ⟨by first|rfl|simp,hbw9⟩
 | false=>
  go_enter Tryz.func140,Tryz.ntmps140;go_wp2_with fail;refine wp_region_quiet_below (by kernel_rfl) (by kernel_rfl) ?_
  repeat (go_big_quiet_step (first|exact Calls.regrown_of (HC1.out _ _)|exact Calls.regrown_of (HC2.out _ _)))
  refine wpQuiet_nil ?_;intro w9 hw'
  have hbw9:Below w.heap.size w w9:=by
   obtain ⟨⟨dq,osq⟩,rfl⟩:=hw';exact below_regrown w dq osq
  clear hw';go_wp2_with fail;go_ret;exact ⟨by first|rfl|simp,hbw9⟩
theorem w_objLies (h:Nat) (ih:LsOk h) (a b:OB) (ba oa bb ob:Nat) (ko:Option Addr) (kc:Nat) (fo:Option Addr) (fc:Nat) (mo:Option Addr) (mc:Nat) (lo:Option Addr) (lc:Nat) (eo:Option Addr) (ec:Nat) (no:Option Addr) (nc:Nat) (w:World)
 (hA:PtO w h a ba oa ko kc fo fc mo mc) (hB:PtO w h b bb ob lo lc eo ec no nc) (fa:obOk (fmN h) a=true) (fb:obOk (fmN h) b=true):
 Calls Tryz.prog 140 #[.pointer (some ⟨ba,oa,none⟩),.pointer (some ⟨bb,ob,none⟩)] w fun e w'=>e= .returned (.bool (obX (bwN h) a b))∧Below w.heap.size w w':=by
 obtain ⟨oA,ra,ga⟩:=q0U fa;obtain ⟨oB,rb,gb⟩:=q0U fb;unfold obX;rw [← mg_is (fitF (bwN h)) oA oB (Nat.le_refl _)];refine obj_lie_v ba oa bb ob _ _ w (hQz fun u hu=>each_lie h (fitF (bwN h)) a b ba oa bb ob ko kc fo fc mo mc lo lc eo ec no nc u (hA.keep hu) (hB.keep hu) oA oB (hQz fun u2 x y b1 o1 b2 o2 hu2 hx hy ex ey=> ?_)) (hQz fun u hu=>ih _ _ _ _ _ _ u (hA.keep hu).rest (hB.keep hu).rest ra rb);have fx:fmN h x.1=true:=by rcases ex with e|e;exact e▸ra;exact ga _ e
 have fy:fmN h y.1=true:=by rcases ey with e|e;exact e▸rb;exact gb _ e
 exact fits_lie b1 o1 b2 o2 x.2 y.2 (bwN h x.1 y.1) u2 (hQz fun u3 hu3=>ih _ _ _ _ _ _ u3 (hx.keep hu3) (hy.keep hu3) fx fy)
theorem objs_lie2 (B b1 o1 b2 o2:Nat) (r:Bool) (w:World) (p0:w.cell? ⟨B,0,none⟩=some (.pointer (some ⟨b1,o1,none⟩)))
 (HC:Hid (Calls Tryz.prog 140 #[.pointer (some ⟨b1,o1,none⟩),.pointer (some ⟨b2,o2,none⟩)] w fun e w'=>e= .returned (.bool r)∧Below w.heap.size w w')):
 Calls Tryz.prog 139 #[.pointer (some ⟨b2,o2,none⟩),.pointer (some ⟨B,0,none⟩)] w fun e w'=>e= .returned (.bool r)∧Below w.heap.size w w':=by
 go_enter Tryz.func139,Tryz.ntmps139;go_wp2_with fail;refine HC.out.mono ?_;rintro e w2 ⟨rfl,hq⟩;go_wp2_with fail;go_ret;exact ⟨rfl,hq⟩
theorem any_row {f:OB→Bool} (xs:List OB) (d:OB):((List.range xs.length).any fun k=>f (xs.getD k d))=xs.any f:=by
 rw [Bool.eq_iff_iff,List.any_eq_true,List.any_eq_true];constructor
 · rintro ⟨k,hk,h⟩;have hk':=List.mem_range.1 hk;rw [List.getD_eq_getElem?_getD,List.getElem?_eq_getElem hk',Option.getD_some] at h;exact ⟨_,List.getElem_mem hk',h⟩
 · rintro ⟨x,hx,h⟩;obtain ⟨k,hk,rfl⟩:=List.getElem_of_mem hx;exact ⟨k,List.mem_range.2 hk,by rw [List.getD_eq_getElem?_getD,List.getElem?_eq_getElem hk,Option.getD_some];exact h⟩
theorem not_any {f:OB→Bool} (xs:List OB):(!xs.any fun a=> !f a)=xs.all f:=by
 rw [Bool.eq_iff_iff,Bool.not_eq_true',List.any_eq_false,List.all_eq_true];exact ⟨fun h x hx=>by simpa using h x hx,fun h x hx=>by simp [h x hx]⟩
def ob0:OB:= .mk [] [] [] ttEv
theorem objs_lie1_v (P b1 o1 bb ob:Nat) (yo:Option Addr) (N yc:Nat) (r:Bool) (w:World) (lP:P<w.heap.size) (lb:bb<w.heap.size) (p1:w.cell? ⟨P,1,none⟩=some (.pointer (some ⟨bb,ob,none⟩))) (y8:w.cell? ⟨bb,ob+8,none⟩=some (.slice yo N yc))
 (HC:Hid (∀ u,Below w.heap.size w u→u.cell? ⟨w.heap.size,0,none⟩=some (.pointer (some ⟨b1,o1,none⟩))→w.heap.size<u.heap.size→Calls Tryz.prog 138 #[.slice yo N yc,.func (.func 139) #[] #[.pointer (some ⟨w.heap.size,0,none⟩)]] u fun e w'=>e= .returned (.bool r)∧Below u.heap.size u w')):
 Calls Tryz.prog 137 #[.pointer (some ⟨b1,o1,none⟩),.pointer (some ⟨P,0,none⟩)] w fun e w'=>e= .returned (.bool (!r))∧Below w.heap.size w w':=by
 obtain ⟨W0,hW0⟩:∃ W0,w.alloc (.cells #[.pointer (some ⟨b1,o1,none⟩)] 180)=W0:=⟨_,rfl⟩;have hb:Below w.heap.size w W0:=by rw [← hW0];exact q05 w _
 have h0:W0.cell? ⟨w.heap.size,0,none⟩=some (.pointer (some ⟨b1,o1,none⟩)):=by rw [← hW0];exact cell_of_row _ _ 0 _ _ (0,0) (World.alloc_heap_new w _)
 have hs:w.heap.size<W0.heap.size:=by rw [← hW0];simp
 have p1:=(hb.cell (p:=⟨_,_,_⟩) lP).trans p1;have y8:=(hb.cell (p:=⟨_,_,_⟩) lb).trans y8;have HB:=hQz hb;have HS:=hQz hs;clear hb hs;go_enter Tryz.func137,Tryz.ntmps137;go_wp2_with fail;refine (HC.out _ HB.out h0 HS.out).mono ?_;rintro e w2 ⟨rfl,hq⟩;have HB2:=hQz (HB.out.trans (hq.mono HB.out.size));clear hq;go_wp2_with fail;go_ret;exact ⟨rfl,HB2.out⟩
theorem objs_lie_v (ba oa bb ob:Nat) (xo:Option Addr) (M xc:Nat) (r:Bool) (w:World) (la:ba<w.heap.size) (x8:w.cell? ⟨ba,oa+8,none⟩=some (.slice xo M xc))
 (HC:Hid (∀ u,Bx2c w u w.heap.size (.pointer (some ⟨ba,oa,none⟩)) (.pointer (some ⟨bb,ob,none⟩))→Calls Tryz.prog 138 #[.slice xo M xc,.func (.func 137) #[] #[.pointer (some ⟨w.heap.size,0,none⟩)]] u fun e w'=>e= .returned (.bool r)∧Below u.heap.size u w')):
 Calls Tryz.prog 112 #[.agg #[.pointer (some ⟨ba,oa,none⟩),.pointer (some ⟨bb,ob,none⟩)]] w fun e w'=>e= .returned (.bool (!r))∧Below w.heap.size w w':=by
 obtain ⟨W0,hW0⟩:∃ W0,w.alloc (.cells #[.pointer (some ⟨ba,oa,none⟩),.pointer (some ⟨bb,ob,none⟩)] 100)=W0:=⟨_,rfl⟩;have HX:Hid (Bx2c w W0 w.heap.size (.pointer (some ⟨ba,oa,none⟩)) (.pointer (some ⟨bb,ob,none⟩))):=by rw [← hW0];exact q07 w _ _ _
 have p0:=HX.out.c0;have p1:=HX.out.c1;have x8:=(HX.out.below.cell (p:=⟨_,_,_⟩) la).trans x8;go_enter Tryz.func112,Tryz.ntmps112;go_wp2_with fail;refine (HC.out _ HX.out).mono ?_;rintro e w2 ⟨rfl,hq⟩;have HX2:=hQz (HX.out.keep hq);clear hq;go_wp2_with fail;go_ret;exact ⟨rfl,HX2.out.below⟩
theorem w_objectsLie (h:Nat) (A B:TT) (ih:0<B.objs.length→LsOk h) (ba oa bb ob:Nat) (no:Option Addr) (nc:Nat) (xo:Option Addr) (xc:Nat) (ao:Option Addr) (ac:Nat) (oo:Option Addr) (oc:Nat) (no2:Option Addr) (nc2:Nat) (xo2:Option Addr) (xc2:Nat) (ao2:Option Addr) (ac2:Nat) (oo2:Option Addr) (oc2:Nat) (w:World)
 (hA:OpT w h A ba oa no nc xo xc ao ac oo oc) (hB:OpT w h B bb ob no2 nc2 xo2 xc2 ao2 ac2 oo2 oc2) (fa:∀ o∈A.objs,obOk (fmN h) o=true) (fb:∀ o∈B.objs,obOk (fmN h) o=true):
 Calls Tryz.prog 112 #[.agg #[.pointer (some ⟨ba,oa,none⟩),.pointer (some ⟨bb,ob,none⟩)]] w fun e w'=>e= .returned (.bool (obL (bwN h) A.objs B.objs))∧Below w.heap.size w w':=by
 unfold obL;rw [← not_any,← any_row A.objs ob0];refine objs_lie_v ba oa bb ob oo A.objs.length oc _ w hA.lt hA.d8 (hQz fun u hu=> ?_);have hA1:=hA.keep hu.below;have hB1:=hB.keep hu.below;refine any_lie1 oo A.objs.length oc _ w.heap.size u hA.caps.2.2.2 hA.lens.2.2.2 (hQz fun h0=>by obtain ⟨b,off,e,_⟩:=hA.ob h0;exact ⟨b,off,e⟩) (hQz fun b off e k hk u2 hu2=> ?_);obtain ⟨b',off',e',hc⟩:=(hA1.keep hu2).ob (by omega);rw [e] at e';simp only [Option.some.injEq,Addr.mk.injEq,and_true] at e';obtain ⟨rfl,rfl⟩:=e';have hB2:=hB1.keep hu2;have hu3:=hu.keep hu2;rw [← any_row B.objs ob0];refine objs_lie1_v w.heap.size b (off+k*12) bb ob oo2 B.objs.length oc2 _ u2 hu3.lt hB2.lt hu3.c1 hB2.d8 (hQz fun u4 hu4 h4 hs4=> ?_);refine any_lie2 oo2 B.objs.length oc2 _ u2.heap.size u4 hB.caps.2.2.2 hB.lens.2.2.2 (hQz fun h0=>by obtain ⟨b,off,e,_⟩:=hB.ob h0;exact ⟨b,off,e⟩) (hQz fun b2 off2 e2 j hj u5 hu5=> ?_);obtain ⟨b2',off2',e2',hc2⟩:=((hB2.keep hu4).keep hu5).ob (by omega);rw [e2] at e2';simp only [Option.some.injEq,Addr.mk.injEq,and_true] at e2';obtain ⟨rfl,rfl⟩:=e2';obtain ⟨ko,kc,fo,fc,mo,mc,hP⟩:=hc k hk;obtain ⟨lo,lc,eo,ec,mo2,mc2,hP2⟩:=hc2 j hj;have h5:=(hu5.cell (p:=⟨u2.heap.size,0,none⟩) hs4).trans h4;have ek:A.objs.getD k ob0=A.objs[k]:=by rw [List.getD_eq_getElem?_getD,List.getElem?_eq_getElem hk,Option.getD_some]
 have ej:B.objs.getD j ob0=B.objs[j]:=by rw [List.getD_eq_getElem?_getD,List.getElem?_eq_getElem hj,Option.getD_some]
 rw [ek,ej];exact objs_lie2 u2.heap.size b (off+k*12) b2 (off2+j*12) _ u5 h5 (hQz (w_objLies h (ih (by omega)) _ _ _ _ _ _ _ _ _ _ _ _ _ _ _ _ _ _ u5 ((hP.keep hu4).keep hu5) hP2 (fa _ (List.getElem_mem _)) (fb _ (List.getElem_mem _))))
theorem any_met1 (oo:Option Addr) (N oc:Nat) (rs:Nat→Bool) (B:Nat) (w:World) (hc:N≤oc) (hN2:N≤140737488355328) (HR:Hid (0<N→∃ b off,oo=some ⟨b,off,none⟩))
 (HC:Hid (∀ b off,oo=some ⟨b,off,none⟩→∀ k,k<N→∀ u,Below w.heap.size w u→Calls Tryz.prog 146 #[.pointer (some ⟨b,off+k*12,none⟩),.pointer (some ⟨B,0,none⟩)] u fun e w'=>e= .returned (.bool (rs k))∧Below u.heap.size u w')):
 Calls Tryz.prog 138 #[.slice oo N oc,.func (.func 146) #[] #[.pointer (some ⟨B,0,none⟩)]] w fun e w'=>e= .returned (.bool ((List.range N).any rs))∧Below w.heap.size w w':=by
 go_enter Tryz.func138,Tryz.ntmps138;go_wp2_with fail
 go_loopw [8] (fun i wr=>∃ k:Nat,k≤N∧i= .int .i64 (k:Int)∧Hid (Below w.heap.size w wr)∧Hid ((List.range k).any rs=false)) (fun i _=>N-(intOf i).toNat)
 case atStart=>exact ⟨0,Nat.zero_le _,rfl,Below.refl _ _,rfl⟩
 case round=>
  obtain ⟨k,hk,rfl,HB,HQ⟩:=hrel;by_cases hlt:k<N
  · have hl1:(k:Int)<(N:Int):=by omega
    have hl0:(0:Int)≤(k:Int):=by omega
    obtain ⟨b,off,hso⟩:=HR.out (by omega);subst hso;have HC1:=hQz (HC.out b off rfl k hlt wr HB.out)
    cases hrk:rs k with
    | true=>
     rw [hrk] at HC1;have HY:Hid ((List.range N).any rs=true):=List.any_eq_true.2 ⟨k,List.mem_range.2 hlt,hrk⟩;clear hrk;go_wp2_with fail;refine HC1.out.mono ?_;rintro e w2 ⟨rfl,hq⟩;have HB2:=hQz (HB.out.trans (hq.mono HB.out.size));clear hq;go_wp2_with fail;go_ret;exact ⟨by rw [HY.out];rfl,HB2.out⟩
    | false=>
     rw [hrk] at HC1;have HN:Hid ((List.range (k+1)).any rs=false):=by show _=_;rw [List.range_succ,List.any_append,HQ.out];simp [hrk]
     clear hrk;go_wp2_with fail;refine HC1.out.mono ?_;rintro e w2 ⟨rfl,hq⟩;have HB2:=hQz (HB.out.trans (hq.mono HB.out.size));clear hq;go_wp2_with fail;go_roundw
     case rel=>exact ⟨k+1,hlt,by go_num,HB2,HN⟩
     case measure=>simp [intOf];omega
  · obtain rfl:k=N:=by omega
    have hl1:¬ (k:Int)<(k:Int):=by omega
    go_wp2_with fail;go_ret;exact ⟨by rw [HQ.out];rfl,HB.out⟩
theorem any_met2 (oo:Option Addr) (N oc:Nat) (rs:Nat→Bool) (B:Nat) (w:World) (hc:N≤oc) (hN2:N≤140737488355328) (HR:Hid (0<N→∃ b off,oo=some ⟨b,off,none⟩))
 (HC:Hid (∀ b off,oo=some ⟨b,off,none⟩→∀ k,k<N→∀ u,Below w.heap.size w u→Calls Tryz.prog 147 #[.pointer (some ⟨b,off+k*12,none⟩),.pointer (some ⟨B,0,none⟩)] u fun e w'=>e= .returned (.bool (rs k))∧Below u.heap.size u w')):
 Calls Tryz.prog 138 #[.slice oo N oc,.func (.func 147) #[] #[.pointer (some ⟨B,0,none⟩)]] w fun e w'=>e= .returned (.bool ((List.range N).any rs))∧Below w.heap.size w w':=by
 go_enter Tryz.func138,Tryz.ntmps138;go_wp2_with fail
 go_loopw [8] (fun i wr=>∃ k:Nat,k≤N∧i= .int .i64 (k:Int)∧Hid (Below w.heap.size w wr)∧Hid ((List.range k).any rs=false)) (fun i _=>N-(intOf i).toNat)
 case atStart=>exact ⟨0,Nat.zero_le _,rfl,Below.refl _ _,rfl⟩
 case round=>
  obtain ⟨k,hk,rfl,HB,HQ⟩:=hrel;by_cases hlt:k<N
  · have hl1:(k:Int)<(N:Int):=by omega
    have hl0:(0:Int)≤(k:Int):=by omega
    obtain ⟨b,off,hso⟩:=HR.out (by omega);subst hso;have HC1:=hQz (HC.out b off rfl k hlt wr HB.out)
    cases hrk:rs k with
    | true=>
     rw [hrk] at HC1;have HY:Hid ((List.range N).any rs=true):=List.any_eq_true.2 ⟨k,List.mem_range.2 hlt,hrk⟩;clear hrk;go_wp2_with fail;refine HC1.out.mono ?_;rintro e w2 ⟨rfl,hq⟩;have HB2:=hQz (HB.out.trans (hq.mono HB.out.size));clear hq;go_wp2_with fail;go_ret;exact ⟨by rw [HY.out];rfl,HB2.out⟩
    | false=>
     rw [hrk] at HC1;have HN:Hid ((List.range (k+1)).any rs=false):=by show _=_;rw [List.range_succ,List.any_append,HQ.out];simp [hrk]
     clear hrk;go_wp2_with fail;refine HC1.out.mono ?_;rintro e w2 ⟨rfl,hq⟩;have HB2:=hQz (HB.out.trans (hq.mono HB.out.size));clear hq;go_wp2_with fail;go_roundw
     case rel=>exact ⟨k+1,hlt,by go_num,HB2,HN⟩
     case measure=>simp [intOf];omega
  · obtain rfl:k=N:=by omega
    have hl1:¬ (k:Int)<(k:Int):=by omega
    go_wp2_with fail;go_ret;exact ⟨by rw [HQ.out];rfl,HB.out⟩
theorem fits_met (b1 o1 b2 o2:Nat) (xm ym r:Bool) (w:World) (HC:Hid (∀ u,Below w.heap.size w u→Calls Tryz.prog 20 #[.pointer (some ⟨b1,o1,none⟩),.pointer (some ⟨b2,o2,none⟩)] u fun e w'=>e= .returned (.bool r)∧Below u.heap.size u w')):
 Calls Tryz.prog 162 #[.agg #[.pointer (some ⟨b1,o1,none⟩),.bool xm],.agg #[.pointer (some ⟨b2,o2,none⟩),.bool ym]] w fun e w'=>e= .returned (.bool ((!xm&& !ym)||r))∧Below w.heap.size w w':=by
 have HX:=hQz (q0b w #[.pointer (some ⟨b1,o1,none⟩),.bool xm] #[.pointer (some ⟨b2,o2,none⟩),.bool ym] 195);obtain ⟨W0,hW0⟩:∃ W0,(w.alloc (.cells #[.pointer (some ⟨b1,o1,none⟩),.bool xm] 195)).alloc (.cells #[.pointer (some ⟨b2,o2,none⟩),.bool ym] 195)=W0:=⟨_,rfl⟩;rw [hW0] at HX;have p0:W0.cell? ⟨w.heap.size,0,none⟩=some (.pointer (some ⟨b1,o1,none⟩)):=HX.out.one 0;have p1:W0.cell? ⟨w.heap.size,1,none⟩=some (.bool xm):=HX.out.one 1;have q0:W0.cell? ⟨w.heap.size+1,0,none⟩=some (.pointer (some ⟨b2,o2,none⟩)):=HX.out.two 0;have q1:W0.cell? ⟨w.heap.size+1,1,none⟩=some (.bool ym):=HX.out.two 1
 cases xm with
 | true=>
  go_enter Tryz.func162,Tryz.ntmps162;go_wp2_with fail;refine (HC.out _ HX.out.below).mono ?_;rintro e w2 ⟨rfl,hq⟩;have HB2:=hQz (HX.out.below.trans (hq.mono HX.out.below.size));clear hq;go_wp2_with fail;go_ret;exact ⟨by first|rfl|simp,HB2.out⟩
 | false=>
  cases ym with
  | true=>
   go_enter Tryz.func162,Tryz.ntmps162;go_wp2_with fail;refine (HC.out _ HX.out.below).mono ?_;rintro e w2 ⟨rfl,hq⟩;have HB2:=hQz (HX.out.below.trans (hq.mono HX.out.below.size));clear hq;go_wp2_with fail;go_ret;exact ⟨by first|rfl|simp,HB2.out⟩
  | false=>
   go_enter Tryz.func162,Tryz.ntmps162;go_wp2_with fail;go_ret;exact ⟨by first|rfl|simp,HX.out.below⟩
def MtOk (h:Nat):Prop:=∀ (A B:TT) (ba oa bb ob:Nat) (u:World),PtT u h A ba oa→PtT u h B bb ob→fmN h A=true→fmN h B=true→Calls Tryz.prog 20 #[.pointer (some ⟨ba,oa,none⟩),.pointer (some ⟨bb,ob,none⟩)] u fun e w'=>e= .returned (.bool (mtN h A B))∧Below u.heap.size u w'
theorem obj_met_v (ba oa bb ob:Nat) (m:Bool) (w:World)
 (H1:Hid (Calls Tryz.prog 153 #[.pointer (some ⟨ba,oa,none⟩),.pointer (some ⟨bb,ob,none⟩),.func (.func 162) #[] #[]] w fun e w'=>e= .returned (.bool m)∧Below w.heap.size w w')):
 Calls Tryz.prog 148 #[.pointer (some ⟨ba,oa,none⟩),.pointer (some ⟨bb,ob,none⟩)] w fun e w'=>e= .returned (.bool m)∧Below w.heap.size w w':=by
 go_enter Tryz.func148,Tryz.ntmps148;go_wp2_with fail;refine H1.out.mono ?_;rintro e w2 ⟨rfl,hq⟩;go_wp2_with fail;go_ret;exact ⟨rfl,hq⟩
theorem w_objsMeet (h:Nat) (ih:MtOk h) (a b:OB) (ba oa bb ob:Nat) (ko:Option Addr) (kc:Nat) (fo:Option Addr) (fc:Nat) (mo:Option Addr) (mc:Nat) (lo:Option Addr) (lc:Nat) (eo:Option Addr) (ec:Nat) (no:Option Addr) (nc:Nat) (w:World)
 (hA:PtO w h a ba oa ko kc fo fc mo mc) (hB:PtO w h b bb ob lo lc eo ec no nc) (fa:obOk (fmN h) a=true) (fb:obOk (fmN h) b=true):
 Calls Tryz.prog 148 #[.pointer (some ⟨ba,oa,none⟩),.pointer (some ⟨bb,ob,none⟩)] w fun e w'=>e= .returned (.bool (obY (mtN h) a b))∧Below w.heap.size w w':=by
 obtain ⟨oA,ra,ga⟩:=q0U fa;obtain ⟨oB,rb,gb⟩:=q0U fb;unfold obY;rw [← mg_is (metF (mtN h)) oA oB (Nat.le_refl _)];refine obj_met_v ba oa bb ob _ w (hQz (each_met h (metF (mtN h)) a b ba oa bb ob ko kc fo fc mo mc lo lc eo ec no nc w hA hB oA oB (hQz fun u2 x y b1 o1 b2 o2 hu2 hx hy ex ey=> ?_)));have fx:fmN h x.1=true:=by rcases ex with e|e;exact e▸ra;exact ga _ e
 have fy:fmN h y.1=true:=by rcases ey with e|e;exact e▸rb;exact gb _ e
 exact fits_met b1 o1 b2 o2 x.2 y.2 (mtN h x.1 y.1) u2 (hQz fun u3 hu3=>ih _ _ _ _ _ _ u3 (hx.keep hu3) (hy.keep hu3) fx fy)
theorem objs_met2 (B b1 o1 b2 o2:Nat) (r:Bool) (w:World) (p0:w.cell? ⟨B,0,none⟩=some (.pointer (some ⟨b1,o1,none⟩)))
 (HC:Hid (Calls Tryz.prog 148 #[.pointer (some ⟨b1,o1,none⟩),.pointer (some ⟨b2,o2,none⟩)] w fun e w'=>e= .returned (.bool r)∧Below w.heap.size w w')):
 Calls Tryz.prog 147 #[.pointer (some ⟨b2,o2,none⟩),.pointer (some ⟨B,0,none⟩)] w fun e w'=>e= .returned (.bool r)∧Below w.heap.size w w':=by
 go_enter Tryz.func147,Tryz.ntmps147;go_wp2_with fail;refine HC.out.mono ?_;rintro e w2 ⟨rfl,hq⟩;go_wp2_with fail;go_ret;exact ⟨rfl,hq⟩
theorem objs_met1_v (P b1 o1 bb ob:Nat) (yo:Option Addr) (N yc:Nat) (r:Bool) (w:World) (lP:P<w.heap.size) (lb:bb<w.heap.size) (p1:w.cell? ⟨P,1,none⟩=some (.pointer (some ⟨bb,ob,none⟩))) (y8:w.cell? ⟨bb,ob+8,none⟩=some (.slice yo N yc))
 (HC:Hid (∀ u,Below w.heap.size w u→u.cell? ⟨w.heap.size,0,none⟩=some (.pointer (some ⟨b1,o1,none⟩))→w.heap.size<u.heap.size→Calls Tryz.prog 138 #[.slice yo N yc,.func (.func 147) #[] #[.pointer (some ⟨w.heap.size,0,none⟩)]] u fun e w'=>e= .returned (.bool r)∧Below u.heap.size u w')):
 Calls Tryz.prog 146 #[.pointer (some ⟨b1,o1,none⟩),.pointer (some ⟨P,0,none⟩)] w fun e w'=>e= .returned (.bool r)∧Below w.heap.size w w':=by
 obtain ⟨W0,hW0⟩:∃ W0,w.alloc (.cells #[.pointer (some ⟨b1,o1,none⟩)] 180)=W0:=⟨_,rfl⟩;have hb:Below w.heap.size w W0:=by rw [← hW0];exact q05 w _
 have h0:W0.cell? ⟨w.heap.size,0,none⟩=some (.pointer (some ⟨b1,o1,none⟩)):=by rw [← hW0];exact cell_of_row _ _ 0 _ _ (0,0) (World.alloc_heap_new w _)
 have hs:w.heap.size<W0.heap.size:=by rw [← hW0];simp
 have p1:=(hb.cell (p:=⟨_,_,_⟩) lP).trans p1;have y8:=(hb.cell (p:=⟨_,_,_⟩) lb).trans y8;have HB:=hQz hb;have HS:=hQz hs;clear hb hs;go_enter Tryz.func146,Tryz.ntmps146;go_wp2_with fail;refine (HC.out _ HB.out h0 HS.out).mono ?_;rintro e w2 ⟨rfl,hq⟩;have HB2:=hQz (HB.out.trans (hq.mono HB.out.size));clear hq;go_wp2_with fail;go_ret;exact ⟨rfl,HB2.out⟩
theorem objs_met_v (ba oa bb ob:Nat) (xo:Option Addr) (M xc:Nat) (r:Bool) (w:World) (la:ba<w.heap.size) (x8:w.cell? ⟨ba,oa+8,none⟩=some (.slice xo M xc))
 (HC:Hid (∀ u,Bx2c w u w.heap.size (.pointer (some ⟨ba,oa,none⟩)) (.pointer (some ⟨bb,ob,none⟩))→Calls Tryz.prog 138 #[.slice xo M xc,.func (.func 146) #[] #[.pointer (some ⟨w.heap.size,0,none⟩)]] u fun e w'=>e= .returned (.bool r)∧Below u.heap.size u w')):
 Calls Tryz.prog 118 #[.agg #[.pointer (some ⟨ba,oa,none⟩),.pointer (some ⟨bb,ob,none⟩)]] w fun e w'=>e= .returned (.bool r)∧Below w.heap.size w w':=by
 obtain ⟨W0,hW0⟩:∃ W0,w.alloc (.cells #[.pointer (some ⟨ba,oa,none⟩),.pointer (some ⟨bb,ob,none⟩)] 100)=W0:=⟨_,rfl⟩;have HX:Hid (Bx2c w W0 w.heap.size (.pointer (some ⟨ba,oa,none⟩)) (.pointer (some ⟨bb,ob,none⟩))):=by rw [← hW0];exact q07 w _ _ _
 have p0:=HX.out.c0;have p1:=HX.out.c1;have x8:=(HX.out.below.cell (p:=⟨_,_,_⟩) la).trans x8;go_enter Tryz.func118,Tryz.ntmps118;go_wp2_with fail;refine (HC.out _ HX.out).mono ?_;rintro e w2 ⟨rfl,hq⟩;have HX2:=hQz (HX.out.keep hq);clear hq;go_wp2_with fail;go_ret;exact ⟨rfl,HX2.out.below⟩
theorem w_objectsMeet (h:Nat) (A B:TT) (ih:0<B.objs.length→MtOk h) (ba oa bb ob:Nat) (no:Option Addr) (nc:Nat) (xo:Option Addr) (xc:Nat) (ao:Option Addr) (ac:Nat) (oo:Option Addr) (oc:Nat) (no2:Option Addr) (nc2:Nat) (xo2:Option Addr) (xc2:Nat) (ao2:Option Addr) (ac2:Nat) (oo2:Option Addr) (oc2:Nat) (w:World)
 (hA:OpT w h A ba oa no nc xo xc ao ac oo oc) (hB:OpT w h B bb ob no2 nc2 xo2 xc2 ao2 ac2 oo2 oc2) (fa:∀ o∈A.objs,obOk (fmN h) o=true) (fb:∀ o∈B.objs,obOk (fmN h) o=true):
 Calls Tryz.prog 118 #[.agg #[.pointer (some ⟨ba,oa,none⟩),.pointer (some ⟨bb,ob,none⟩)]] w fun e w'=>e= .returned (.bool (obM (mtN h) A.objs B.objs))∧Below w.heap.size w w':=by
 unfold obM;rw [← any_row A.objs ob0];refine objs_met_v ba oa bb ob oo A.objs.length oc _ w hA.lt hA.d8 (hQz fun u hu=> ?_);have hA1:=hA.keep hu.below;have hB1:=hB.keep hu.below;refine any_met1 oo A.objs.length oc _ w.heap.size u hA.caps.2.2.2 hA.lens.2.2.2 (hQz fun h0=>by obtain ⟨b,off,e,_⟩:=hA.ob h0;exact ⟨b,off,e⟩) (hQz fun b off e k hk u2 hu2=> ?_);obtain ⟨b',off',e',hc⟩:=(hA1.keep hu2).ob (by omega);rw [e] at e';simp only [Option.some.injEq,Addr.mk.injEq,and_true] at e';obtain ⟨rfl,rfl⟩:=e';have hB2:=hB1.keep hu2;have hu3:=hu.keep hu2;rw [← any_row B.objs ob0];refine objs_met1_v w.heap.size b (off+k*12) bb ob oo2 B.objs.length oc2 _ u2 hu3.lt hB2.lt hu3.c1 hB2.d8 (hQz fun u4 hu4 h4 hs4=> ?_);refine any_met2 oo2 B.objs.length oc2 _ u2.heap.size u4 hB.caps.2.2.2 hB.lens.2.2.2 (hQz fun h0=>by obtain ⟨b,off,e,_⟩:=hB.ob h0;exact ⟨b,off,e⟩) (hQz fun b2 off2 e2 j hj u5 hu5=> ?_);obtain ⟨b2',off2',e2',hc2⟩:=((hB2.keep hu4).keep hu5).ob (by omega);rw [e2] at e2';simp only [Option.some.injEq,Addr.mk.injEq,and_true] at e2';obtain ⟨rfl,rfl⟩:=e2';obtain ⟨ko,kc,fo,fc,mo,mc,hP⟩:=hc k hk;obtain ⟨lo,lc,eo,ec,mo2,mc2,hP2⟩:=hc2 j hj;have h5:=(hu5.cell (p:=⟨u2.heap.size,0,none⟩) hs4).trans h4;have ek:A.objs.getD k ob0=A.objs[k]:=by rw [List.getD_eq_getElem?_getD,List.getElem?_eq_getElem hk,Option.getD_some]
 have ej:B.objs.getD j ob0=B.objs[j]:=by rw [List.getD_eq_getElem?_getD,List.getElem?_eq_getElem hj,Option.getD_some]
 rw [ek,ej];exact objs_met2 u2.heap.size b (off+k*12) b2 (off2+j*12) _ u5 h5 (hQz (w_objsMeet h (ih (by omega)) _ _ _ _ _ _ _ _ _ _ _ _ _ _ _ _ _ _ u5 ((hP.keep hu4).keep hu5) hP2 (fa _ (List.getElem_mem _)) (fb _ (List.getElem_mem _))))
theorem arrs_lie_none (ba oa bb ob:Nat) (w:World) (la:ba<w.heap.size) (ao:Option Addr) (ac:Nat) (X7:w.cell? ⟨ba,oa+7,none⟩=some (.slice ao 0 ac)):Calls Tryz.prog 111 #[.agg #[.pointer (some ⟨ba,oa,none⟩),.pointer (some ⟨bb,ob,none⟩)]] w fun e w'=>e= .returned (.bool true)∧Below w.heap.size w w':=by
 obtain ⟨W0,hW0⟩:∃ W0,w.alloc (.cells #[.pointer (some ⟨ba,oa,none⟩),.pointer (some ⟨bb,ob,none⟩)] 100)=W0:=⟨_,rfl⟩;have HX:Hid (Bx2c w W0 w.heap.size (.pointer (some ⟨ba,oa,none⟩)) (.pointer (some ⟨bb,ob,none⟩))):=by rw [← hW0];exact q07 w _ _ _
 have p0:=HX.out.c0;have p1:=HX.out.c1;have x7:=(HX.out.below.cell (p:=⟨_,_,_⟩) la).trans X7;go_enter Tryz.func111,Tryz.ntmps111;go_wp2_with fail;go_ret;exact ⟨rfl,HX.out.below⟩
theorem arrs_lie_out (ba oa bb ob:Nat) (w:World) (la:ba<w.heap.size) (lb:bb<w.heap.size) (ao:Option Addr) (M ac:Nat) (bo:Option Addr) (bc:Nat) (hM:0<M) (X7:w.cell? ⟨ba,oa+7,none⟩=some (.slice ao M ac)) (Y7:w.cell? ⟨bb,ob+7,none⟩=some (.slice bo 0 bc)):Calls Tryz.prog 111 #[.agg #[.pointer (some ⟨ba,oa,none⟩),.pointer (some ⟨bb,ob,none⟩)]] w fun e w'=>e= .returned (.bool false)∧Below w.heap.size w w':=by
 obtain ⟨W0,hW0⟩:∃ W0,w.alloc (.cells #[.pointer (some ⟨ba,oa,none⟩),.pointer (some ⟨bb,ob,none⟩)] 100)=W0:=⟨_,rfl⟩;have HX:Hid (Bx2c w W0 w.heap.size (.pointer (some ⟨ba,oa,none⟩)) (.pointer (some ⟨bb,ob,none⟩))):=by rw [← hW0];exact q07 w _ _ _
 have hm1:((M:Int)==0)=false:=by simp;omega
 have p0:=HX.out.c0;have p1:=HX.out.c1;have x7:=(HX.out.below.cell (p:=⟨_,_,_⟩) la).trans X7;have y7:=(HX.out.below.cell (p:=⟨_,_,_⟩) lb).trans Y7;go_enter Tryz.func111,Tryz.ntmps111;go_wp2_with fail;go_ret;exact ⟨by first|rfl|simp,HX.out.below⟩
theorem arrs_met_none (ba oa bb ob:Nat) (w:World) (la:ba<w.heap.size) (ao:Option Addr) (ac:Nat) (X7:w.cell? ⟨ba,oa+7,none⟩=some (.slice ao 0 ac)):Calls Tryz.prog 117 #[.agg #[.pointer (some ⟨ba,oa,none⟩),.pointer (some ⟨bb,ob,none⟩)]] w fun e w'=>e= .returned (.bool false)∧Below w.heap.size w w':=by
 obtain ⟨W0,hW0⟩:∃ W0,w.alloc (.cells #[.pointer (some ⟨ba,oa,none⟩),.pointer (some ⟨bb,ob,none⟩)] 100)=W0:=⟨_,rfl⟩;have HX:Hid (Bx2c w W0 w.heap.size (.pointer (some ⟨ba,oa,none⟩)) (.pointer (some ⟨bb,ob,none⟩))):=by rw [← hW0];exact q07 w _ _ _
 have p0:=HX.out.c0;have p1:=HX.out.c1;have x7:=(HX.out.below.cell (p:=⟨_,_,_⟩) la).trans X7;go_enter Tryz.func117,Tryz.ntmps117;go_wp2_with fail;go_ret;exact ⟨rfl,HX.out.below⟩
theorem arrs_met_out (ba oa bb ob:Nat) (w:World) (la:ba<w.heap.size) (lb:bb<w.heap.size) (ao:Option Addr) (M ac:Nat) (bo:Option Addr) (bc:Nat) (hM:0<M) (X7:w.cell? ⟨ba,oa+7,none⟩=some (.slice ao M ac)) (Y7:w.cell? ⟨bb,ob+7,none⟩=some (.slice bo 0 bc)):Calls Tryz.prog 117 #[.agg #[.pointer (some ⟨ba,oa,none⟩),.pointer (some ⟨bb,ob,none⟩)]] w fun e w'=>e= .returned (.bool false)∧Below w.heap.size w w':=by
 obtain ⟨W0,hW0⟩:∃ W0,w.alloc (.cells #[.pointer (some ⟨ba,oa,none⟩),.pointer (some ⟨bb,ob,none⟩)] 100)=W0:=⟨_,rfl⟩;have HX:Hid (Bx2c w W0 w.heap.size (.pointer (some ⟨ba,oa,none⟩)) (.pointer (some ⟨bb,ob,none⟩))):=by rw [← hW0];exact q07 w _ _ _
 have hm1:((M:Int)==0)=false:=by simp;omega
 have p0:=HX.out.c0;have p1:=HX.out.c1;have x7:=(HX.out.below.cell (p:=⟨_,_,_⟩) la).trans X7;have y7:=(HX.out.below.cell (p:=⟨_,_,_⟩) lb).trans Y7;go_enter Tryz.func117,Tryz.ntmps117;go_wp2_with fail;go_ret;exact ⟨by first|rfl|simp,HX.out.below⟩
theorem arrs_lie_both (ba oa bb ob:Nat) (w:World) (la:ba<w.heap.size) (lb:bb<w.heap.size) (sb so qb qo M ac N bc:Nat) (hM:0<M) (hN:0<N) (lsb:sb<w.heap.size) (lqb:qb<w.heap.size) (m1 n1 m2 n2:Int) (r:Bool) (X7:w.cell? ⟨ba,oa+7,none⟩=some (.slice (some ⟨sb,so,none⟩) M ac)) (Y7:w.cell? ⟨bb,ob+7,none⟩=some (.slice (some ⟨qb,qo,none⟩) N bc)) (X9:w.cell? ⟨sb,so+9,none⟩=some (.int .i64 m1)) (XA:w.cell? ⟨sb,so+10,none⟩=some (.int .i64 n1)) (Y9:w.cell? ⟨qb,qo+9,none⟩=some (.int .i64 m2)) (YA:w.cell? ⟨qb,qo+10,none⟩=some (.int .i64 n2))
 (HC:Hid (∀ u,Below w.heap.size w u→Calls Tryz.prog 19 #[.pointer (some ⟨sb,so,none⟩),.pointer (some ⟨qb,qo,none⟩)] u fun e w'=>e= .returned (.bool r)∧Below u.heap.size u w')):
 Calls Tryz.prog 111 #[.agg #[.pointer (some ⟨ba,oa,none⟩),.pointer (some ⟨bb,ob,none⟩)]] w fun e w'=>e= .returned (.bool (!(decide (m1<m2)||(decide (0≤n2)&&(decide (n1<0)||decide (n2<n1))))&&(decide (n1=0)||r)))∧Below w.heap.size w w':=by
 have hm1:((M:Int)==0)=false:=by simp;omega
 have hn1:((N:Int)==0)=false:=by simp;omega
 have hm3:(0:Int)<(M:Int):=by omega
 have hn3:(0:Int)<(N:Int):=by omega
 obtain ⟨W0,hW0⟩:∃ W0,w.alloc (.cells #[.pointer (some ⟨ba,oa,none⟩),.pointer (some ⟨bb,ob,none⟩)] 100)=W0:=⟨_,rfl⟩;have HX:Hid (Bx2c w W0 w.heap.size (.pointer (some ⟨ba,oa,none⟩)) (.pointer (some ⟨bb,ob,none⟩))):=by rw [← hW0];exact q07 w _ _ _
 by_cases ha:m1<m2
 · have a:decide (m1<m2)=true:=decide_eq_true ha;rw [a];have p0:=HX.out.c0;have p1:=HX.out.c1;have x7:=(HX.out.below.cell (p:=⟨_,_,_⟩) la).trans X7;have y7:=(HX.out.below.cell (p:=⟨_,_,_⟩) lb).trans Y7;have x9:=(HX.out.below.cell (p:=⟨_,_,_⟩) lsb).trans X9;have xa:=(HX.out.below.cell (p:=⟨_,_,_⟩) lsb).trans XA;have y9:=(HX.out.below.cell (p:=⟨_,_,_⟩) lqb).trans Y9;have ya:=(HX.out.below.cell (p:=⟨_,_,_⟩) lqb).trans YA;go_enter Tryz.func111,Tryz.ntmps111;go_upto_region 3 with fail;have Ap0:=fun d os=>cell_regrown p0 d os;have Ap1:=fun d os=>cell_regrown p1 d os;have Ax7:=fun d os=>cell_regrown x7 d os;have Ay7:=fun d os=>cell_regrown y7 d os;have Ax9:=fun d os=>cell_regrown x9 d os;have Axa:=fun d os=>cell_regrown xa d os;have Ay9:=fun d os=>cell_regrown y9 d os;have Aya:=fun d os=>cell_regrown ya d os;refine wp_region_quiet_below (by kernel_rfl) (by kernel_rfl) ?_
   repeat (go_big_quiet_step (fail))
   refine wpQuiet_nil ?_;intro w1 hw'
   have hbw9:Below W0.heap.size W0 w1:=by
    obtain ⟨⟨dq,osq⟩,rfl⟩:=hw';exact below_regrown W0 dq osq
   clear hw';have HX1:=hQz (HX.out.keep hbw9);clear hbw9 Ap0 Ap1 Ax7 Ay7 Ax9 Axa Ay9 Aya;clear p0 p1 x7 y7 x9 xa y9 ya;have p0:=HX1.out.c0;have p1:=HX1.out.c1;have x7:=(HX1.out.below.cell (p:=⟨_,_,_⟩) la).trans X7;have y7:=(HX1.out.below.cell (p:=⟨_,_,_⟩) lb).trans Y7;have x9:=(HX1.out.below.cell (p:=⟨_,_,_⟩) lsb).trans X9;have xa:=(HX1.out.below.cell (p:=⟨_,_,_⟩) lsb).trans XA;have y9:=(HX1.out.below.cell (p:=⟨_,_,_⟩) lqb).trans Y9;have ya:=(HX1.out.below.cell (p:=⟨_,_,_⟩) lqb).trans YA;go_upto_region 4 with fail;have Ap0:=fun d os=>cell_regrown p0 d os;have Ap1:=fun d os=>cell_regrown p1 d os;have Ax7:=fun d os=>cell_regrown x7 d os;have Ay7:=fun d os=>cell_regrown y7 d os;have Ax9:=fun d os=>cell_regrown x9 d os;have Axa:=fun d os=>cell_regrown xa d os;have Ay9:=fun d os=>cell_regrown y9 d os;have Aya:=fun d os=>cell_regrown ya d os;refine wp_region_quiet_below (by kernel_rfl) (by kernel_rfl) ?_
   repeat (go_big_quiet_step (fail))
   refine wpQuiet_nil ?_;intro w2 hw'
   have hbw9:Below w1.heap.size w1 w2:=by
    obtain ⟨⟨dq,osq⟩,rfl⟩:=hw';exact below_regrown w1 dq osq
   clear hw';have HX2:=hQz (HX1.out.keep hbw9);clear hbw9 Ap0 Ap1 Ax7 Ay7 Ax9 Axa Ay9 Aya;clear p0 p1 x7 y7 x9 xa y9 ya;have p0:=HX2.out.c0;have p1:=HX2.out.c1;have x7:=(HX2.out.below.cell (p:=⟨_,_,_⟩) la).trans X7;have y7:=(HX2.out.below.cell (p:=⟨_,_,_⟩) lb).trans Y7;have x9:=(HX2.out.below.cell (p:=⟨_,_,_⟩) lsb).trans X9;have xa:=(HX2.out.below.cell (p:=⟨_,_,_⟩) lsb).trans XA;have y9:=(HX2.out.below.cell (p:=⟨_,_,_⟩) lqb).trans Y9;have ya:=(HX2.out.below.cell (p:=⟨_,_,_⟩) lqb).trans YA;go_wp2_with fail;go_ret;exact ⟨by first|rfl|simp,HX2.out.below⟩
 · have a:decide (m1<m2)=false:=decide_eq_false ha;rw [a];by_cases hb:0≤n2
   · have b:decide (0≤n2)=true:=decide_eq_true hb;rw [b];by_cases hc:n1<0
     · have c:decide (n1<0)=true:=decide_eq_true hc;rw [c];have p0:=HX.out.c0;have p1:=HX.out.c1;have x7:=(HX.out.below.cell (p:=⟨_,_,_⟩) la).trans X7;have y7:=(HX.out.below.cell (p:=⟨_,_,_⟩) lb).trans Y7;have x9:=(HX.out.below.cell (p:=⟨_,_,_⟩) lsb).trans X9;have xa:=(HX.out.below.cell (p:=⟨_,_,_⟩) lsb).trans XA;have y9:=(HX.out.below.cell (p:=⟨_,_,_⟩) lqb).trans Y9;have ya:=(HX.out.below.cell (p:=⟨_,_,_⟩) lqb).trans YA;go_enter Tryz.func111,Tryz.ntmps111;go_upto_region 3 with fail;have Ap0:=fun d os=>cell_regrown p0 d os;have Ap1:=fun d os=>cell_regrown p1 d os;have Ax7:=fun d os=>cell_regrown x7 d os;have Ay7:=fun d os=>cell_regrown y7 d os;have Ax9:=fun d os=>cell_regrown x9 d os;have Axa:=fun d os=>cell_regrown xa d os;have Ay9:=fun d os=>cell_regrown y9 d os;have Aya:=fun d os=>cell_regrown ya d os;refine wp_region_quiet_below (by kernel_rfl) (by kernel_rfl) ?_
       repeat (go_big_quiet_step (fail))
       refine wpQuiet_nil ?_;intro w1 hw'
       have hbw9:Below W0.heap.size W0 w1:=by
        obtain ⟨⟨dq,osq⟩,rfl⟩:=hw';exact below_regrown W0 dq osq
       clear hw';have HX1:=hQz (HX.out.keep hbw9);clear hbw9 Ap0 Ap1 Ax7 Ay7 Ax9 Axa Ay9 Aya;clear p0 p1 x7 y7 x9 xa y9 ya;have p0:=HX1.out.c0;have p1:=HX1.out.c1;have x7:=(HX1.out.below.cell (p:=⟨_,_,_⟩) la).trans X7;have y7:=(HX1.out.below.cell (p:=⟨_,_,_⟩) lb).trans Y7;have x9:=(HX1.out.below.cell (p:=⟨_,_,_⟩) lsb).trans X9;have xa:=(HX1.out.below.cell (p:=⟨_,_,_⟩) lsb).trans XA;have y9:=(HX1.out.below.cell (p:=⟨_,_,_⟩) lqb).trans Y9;have ya:=(HX1.out.below.cell (p:=⟨_,_,_⟩) lqb).trans YA;go_upto_region 4 with fail;have Ap0:=fun d os=>cell_regrown p0 d os;have Ap1:=fun d os=>cell_regrown p1 d os;have Ax7:=fun d os=>cell_regrown x7 d os;have Ay7:=fun d os=>cell_regrown y7 d os;have Ax9:=fun d os=>cell_regrown x9 d os;have Axa:=fun d os=>cell_regrown xa d os;have Ay9:=fun d os=>cell_regrown y9 d os;have Aya:=fun d os=>cell_regrown ya d os;refine wp_region_quiet_below (by kernel_rfl) (by kernel_rfl) ?_
       repeat (go_big_quiet_step (fail))
       refine wpQuiet_nil ?_;intro w2 hw'
       have hbw9:Below w1.heap.size w1 w2:=by
        obtain ⟨⟨dq,osq⟩,rfl⟩:=hw';exact below_regrown w1 dq osq
       clear hw';have HX2:=hQz (HX1.out.keep hbw9);clear hbw9 Ap0 Ap1 Ax7 Ay7 Ax9 Axa Ay9 Aya;clear p0 p1 x7 y7 x9 xa y9 ya;have p0:=HX2.out.c0;have p1:=HX2.out.c1;have x7:=(HX2.out.below.cell (p:=⟨_,_,_⟩) la).trans X7;have y7:=(HX2.out.below.cell (p:=⟨_,_,_⟩) lb).trans Y7;have x9:=(HX2.out.below.cell (p:=⟨_,_,_⟩) lsb).trans X9;have xa:=(HX2.out.below.cell (p:=⟨_,_,_⟩) lsb).trans XA;have y9:=(HX2.out.below.cell (p:=⟨_,_,_⟩) lqb).trans Y9;have ya:=(HX2.out.below.cell (p:=⟨_,_,_⟩) lqb).trans YA;go_wp2_with fail;go_ret;exact ⟨by first|rfl|simp,HX2.out.below⟩
     · have c:decide (n1<0)=false:=decide_eq_false hc;rw [c];by_cases hd:n2<n1
       · have d:decide (n2<n1)=true:=decide_eq_true hd;rw [d];have p0:=HX.out.c0;have p1:=HX.out.c1;have x7:=(HX.out.below.cell (p:=⟨_,_,_⟩) la).trans X7;have y7:=(HX.out.below.cell (p:=⟨_,_,_⟩) lb).trans Y7;have x9:=(HX.out.below.cell (p:=⟨_,_,_⟩) lsb).trans X9;have xa:=(HX.out.below.cell (p:=⟨_,_,_⟩) lsb).trans XA;have y9:=(HX.out.below.cell (p:=⟨_,_,_⟩) lqb).trans Y9;have ya:=(HX.out.below.cell (p:=⟨_,_,_⟩) lqb).trans YA;go_enter Tryz.func111,Tryz.ntmps111;go_upto_region 3 with fail;have Ap0:=fun d os=>cell_regrown p0 d os;have Ap1:=fun d os=>cell_regrown p1 d os;have Ax7:=fun d os=>cell_regrown x7 d os;have Ay7:=fun d os=>cell_regrown y7 d os;have Ax9:=fun d os=>cell_regrown x9 d os;have Axa:=fun d os=>cell_regrown xa d os;have Ay9:=fun d os=>cell_regrown y9 d os;have Aya:=fun d os=>cell_regrown ya d os;refine wp_region_quiet_below (by kernel_rfl) (by kernel_rfl) ?_
         repeat (go_big_quiet_step (fail))
         refine wpQuiet_nil ?_;intro w1 hw'
         have hbw9:Below W0.heap.size W0 w1:=by
          obtain ⟨⟨dq,osq⟩,rfl⟩:=hw';exact below_regrown W0 dq osq
         clear hw';have HX1:=hQz (HX.out.keep hbw9);clear hbw9 Ap0 Ap1 Ax7 Ay7 Ax9 Axa Ay9 Aya;clear p0 p1 x7 y7 x9 xa y9 ya;have p0:=HX1.out.c0;have p1:=HX1.out.c1;have x7:=(HX1.out.below.cell (p:=⟨_,_,_⟩) la).trans X7;have y7:=(HX1.out.below.cell (p:=⟨_,_,_⟩) lb).trans Y7;have x9:=(HX1.out.below.cell (p:=⟨_,_,_⟩) lsb).trans X9;have xa:=(HX1.out.below.cell (p:=⟨_,_,_⟩) lsb).trans XA;have y9:=(HX1.out.below.cell (p:=⟨_,_,_⟩) lqb).trans Y9;have ya:=(HX1.out.below.cell (p:=⟨_,_,_⟩) lqb).trans YA;go_upto_region 4 with fail;have Ap0:=fun d os=>cell_regrown p0 d os;have Ap1:=fun d os=>cell_regrown p1 d os;have Ax7:=fun d os=>cell_regrown x7 d os;have Ay7:=fun d os=>cell_regrown y7 d os;have Ax9:=fun d os=>cell_regrown x9 d os;have Axa:=fun d os=>cell_regrown xa d os;have Ay9:=fun d os=>cell_regrown y9 d os;have Aya:=fun d os=>cell_regrown ya d os;refine wp_region_quiet_below (by kernel_rfl) (by kernel_rfl) ?_
         repeat (go_big_quiet_step (fail))
         refine wpQuiet_nil ?_;intro w2 hw'
         have hbw9:Below w1.heap.size w1 w2:=by
          obtain ⟨⟨dq,osq⟩,rfl⟩:=hw';exact below_regrown w1 dq osq
         clear hw';have HX2:=hQz (HX1.out.keep hbw9);clear hbw9 Ap0 Ap1 Ax7 Ay7 Ax9 Axa Ay9 Aya;clear p0 p1 x7 y7 x9 xa y9 ya;have p0:=HX2.out.c0;have p1:=HX2.out.c1;have x7:=(HX2.out.below.cell (p:=⟨_,_,_⟩) la).trans X7;have y7:=(HX2.out.below.cell (p:=⟨_,_,_⟩) lb).trans Y7;have x9:=(HX2.out.below.cell (p:=⟨_,_,_⟩) lsb).trans X9;have xa:=(HX2.out.below.cell (p:=⟨_,_,_⟩) lsb).trans XA;have y9:=(HX2.out.below.cell (p:=⟨_,_,_⟩) lqb).trans Y9;have ya:=(HX2.out.below.cell (p:=⟨_,_,_⟩) lqb).trans YA;go_wp2_with fail;go_ret;exact ⟨by first|rfl|simp,HX2.out.below⟩
       · have d:decide (n2<n1)=false:=decide_eq_false hd;rw [d];by_cases he:n1=0
         · have e:decide (n1=0)=true:=decide_eq_true he;have e':(n1==0)=true:=by simpa using he
           rw [e];clear he e;have p0:=HX.out.c0;have p1:=HX.out.c1;have x7:=(HX.out.below.cell (p:=⟨_,_,_⟩) la).trans X7;have y7:=(HX.out.below.cell (p:=⟨_,_,_⟩) lb).trans Y7;have x9:=(HX.out.below.cell (p:=⟨_,_,_⟩) lsb).trans X9;have xa:=(HX.out.below.cell (p:=⟨_,_,_⟩) lsb).trans XA;have y9:=(HX.out.below.cell (p:=⟨_,_,_⟩) lqb).trans Y9;have ya:=(HX.out.below.cell (p:=⟨_,_,_⟩) lqb).trans YA;go_enter Tryz.func111,Tryz.ntmps111;go_upto_region 3 with fail;have Ap0:=fun d os=>cell_regrown p0 d os;have Ap1:=fun d os=>cell_regrown p1 d os;have Ax7:=fun d os=>cell_regrown x7 d os;have Ay7:=fun d os=>cell_regrown y7 d os;have Ax9:=fun d os=>cell_regrown x9 d os;have Axa:=fun d os=>cell_regrown xa d os;have Ay9:=fun d os=>cell_regrown y9 d os;have Aya:=fun d os=>cell_regrown ya d os;refine wp_region_quiet_below (by kernel_rfl) (by kernel_rfl) ?_
           repeat (go_big_quiet_step (fail))
           refine wpQuiet_nil ?_;intro w1 hw'
           have hbw9:Below W0.heap.size W0 w1:=by
            obtain ⟨⟨dq,osq⟩,rfl⟩:=hw';exact below_regrown W0 dq osq
           clear hw';have HX1:=hQz (HX.out.keep hbw9);clear hbw9 Ap0 Ap1 Ax7 Ay7 Ax9 Axa Ay9 Aya;clear p0 p1 x7 y7 x9 xa y9 ya;have p0:=HX1.out.c0;have p1:=HX1.out.c1;have x7:=(HX1.out.below.cell (p:=⟨_,_,_⟩) la).trans X7;have y7:=(HX1.out.below.cell (p:=⟨_,_,_⟩) lb).trans Y7;have x9:=(HX1.out.below.cell (p:=⟨_,_,_⟩) lsb).trans X9;have xa:=(HX1.out.below.cell (p:=⟨_,_,_⟩) lsb).trans XA;have y9:=(HX1.out.below.cell (p:=⟨_,_,_⟩) lqb).trans Y9;have ya:=(HX1.out.below.cell (p:=⟨_,_,_⟩) lqb).trans YA;go_upto_region 4 with fail;have Ap0:=fun d os=>cell_regrown p0 d os;have Ap1:=fun d os=>cell_regrown p1 d os;have Ax7:=fun d os=>cell_regrown x7 d os;have Ay7:=fun d os=>cell_regrown y7 d os;have Ax9:=fun d os=>cell_regrown x9 d os;have Axa:=fun d os=>cell_regrown xa d os;have Ay9:=fun d os=>cell_regrown y9 d os;have Aya:=fun d os=>cell_regrown ya d os;refine wp_region_quiet_below (by kernel_rfl) (by kernel_rfl) ?_
           repeat (go_big_quiet_step (fail))
           refine wpQuiet_nil ?_;intro w2 hw'
           have hbw9:Below w1.heap.size w1 w2:=by
            obtain ⟨⟨dq,osq⟩,rfl⟩:=hw';exact below_regrown w1 dq osq
           clear hw';have HX2:=hQz (HX1.out.keep hbw9);clear hbw9 Ap0 Ap1 Ax7 Ay7 Ax9 Axa Ay9 Aya;clear p0 p1 x7 y7 x9 xa y9 ya;have p0:=HX2.out.c0;have p1:=HX2.out.c1;have x7:=(HX2.out.below.cell (p:=⟨_,_,_⟩) la).trans X7;have y7:=(HX2.out.below.cell (p:=⟨_,_,_⟩) lb).trans Y7;have x9:=(HX2.out.below.cell (p:=⟨_,_,_⟩) lsb).trans X9;have xa:=(HX2.out.below.cell (p:=⟨_,_,_⟩) lsb).trans XA;have y9:=(HX2.out.below.cell (p:=⟨_,_,_⟩) lqb).trans Y9;have ya:=(HX2.out.below.cell (p:=⟨_,_,_⟩) lqb).trans YA;go_upto_region 6 with fail;have Ap0:=fun d os=>cell_regrown p0 d os;have Ap1:=fun d os=>cell_regrown p1 d os;have Ax7:=fun d os=>cell_regrown x7 d os;have Ay7:=fun d os=>cell_regrown y7 d os;have Ax9:=fun d os=>cell_regrown x9 d os;have Axa:=fun d os=>cell_regrown xa d os;have Ay9:=fun d os=>cell_regrown y9 d os;have Aya:=fun d os=>cell_regrown ya d os;refine wp_region_quiet_below (by kernel_rfl) (by kernel_rfl) ?_
           repeat (go_big_quiet_step (fail))
           refine wpQuiet_nil ?_;intro w3 hw'
           have hbw9:Below w2.heap.size w2 w3:=by
            obtain ⟨⟨dq,osq⟩,rfl⟩:=hw';exact below_regrown w2 dq osq
           clear hw';have HX3:=hQz (HX2.out.keep hbw9);clear hbw9 Ap0 Ap1 Ax7 Ay7 Ax9 Axa Ay9 Aya;clear p0 p1 x7 y7 x9 xa y9 ya;go_wp2_with fail;go_ret;exact ⟨by first|rfl|simp,HX3.out.below⟩
         · have e:decide (n1=0)=false:=decide_eq_false he;have e':(n1==0)=false:=by simpa using he
           rw [e];clear he e;have p0:=HX.out.c0;have p1:=HX.out.c1;have x7:=(HX.out.below.cell (p:=⟨_,_,_⟩) la).trans X7;have y7:=(HX.out.below.cell (p:=⟨_,_,_⟩) lb).trans Y7;have x9:=(HX.out.below.cell (p:=⟨_,_,_⟩) lsb).trans X9;have xa:=(HX.out.below.cell (p:=⟨_,_,_⟩) lsb).trans XA;have y9:=(HX.out.below.cell (p:=⟨_,_,_⟩) lqb).trans Y9;have ya:=(HX.out.below.cell (p:=⟨_,_,_⟩) lqb).trans YA;go_enter Tryz.func111,Tryz.ntmps111;go_upto_region 3 with fail;have Ap0:=fun d os=>cell_regrown p0 d os;have Ap1:=fun d os=>cell_regrown p1 d os;have Ax7:=fun d os=>cell_regrown x7 d os;have Ay7:=fun d os=>cell_regrown y7 d os;have Ax9:=fun d os=>cell_regrown x9 d os;have Axa:=fun d os=>cell_regrown xa d os;have Ay9:=fun d os=>cell_regrown y9 d os;have Aya:=fun d os=>cell_regrown ya d os;refine wp_region_quiet_below (by kernel_rfl) (by kernel_rfl) ?_
           repeat (go_big_quiet_step (fail))
           refine wpQuiet_nil ?_;intro w1 hw'
           have hbw9:Below W0.heap.size W0 w1:=by
            obtain ⟨⟨dq,osq⟩,rfl⟩:=hw';exact below_regrown W0 dq osq
           clear hw';have HX1:=hQz (HX.out.keep hbw9);clear hbw9 Ap0 Ap1 Ax7 Ay7 Ax9 Axa Ay9 Aya;clear p0 p1 x7 y7 x9 xa y9 ya;have p0:=HX1.out.c0;have p1:=HX1.out.c1;have x7:=(HX1.out.below.cell (p:=⟨_,_,_⟩) la).trans X7;have y7:=(HX1.out.below.cell (p:=⟨_,_,_⟩) lb).trans Y7;have x9:=(HX1.out.below.cell (p:=⟨_,_,_⟩) lsb).trans X9;have xa:=(HX1.out.below.cell (p:=⟨_,_,_⟩) lsb).trans XA;have y9:=(HX1.out.below.cell (p:=⟨_,_,_⟩) lqb).trans Y9;have ya:=(HX1.out.below.cell (p:=⟨_,_,_⟩) lqb).trans YA;go_upto_region 4 with fail;have Ap0:=fun d os=>cell_regrown p0 d os;have Ap1:=fun d os=>cell_regrown p1 d os;have Ax7:=fun d os=>cell_regrown x7 d os;have Ay7:=fun d os=>cell_regrown y7 d os;have Ax9:=fun d os=>cell_regrown x9 d os;have Axa:=fun d os=>cell_regrown xa d os;have Ay9:=fun d os=>cell_regrown y9 d os;have Aya:=fun d os=>cell_regrown ya d os;refine wp_region_quiet_below (by kernel_rfl) (by kernel_rfl) ?_
           repeat (go_big_quiet_step (fail))
           refine wpQuiet_nil ?_;intro w2 hw'
           have hbw9:Below w1.heap.size w1 w2:=by
            obtain ⟨⟨dq,osq⟩,rfl⟩:=hw';exact below_regrown w1 dq osq
           clear hw';have HX2:=hQz (HX1.out.keep hbw9);clear hbw9 Ap0 Ap1 Ax7 Ay7 Ax9 Axa Ay9 Aya;clear p0 p1 x7 y7 x9 xa y9 ya;have p0:=HX2.out.c0;have p1:=HX2.out.c1;have x7:=(HX2.out.below.cell (p:=⟨_,_,_⟩) la).trans X7;have y7:=(HX2.out.below.cell (p:=⟨_,_,_⟩) lb).trans Y7;have x9:=(HX2.out.below.cell (p:=⟨_,_,_⟩) lsb).trans X9;have xa:=(HX2.out.below.cell (p:=⟨_,_,_⟩) lsb).trans XA;have y9:=(HX2.out.below.cell (p:=⟨_,_,_⟩) lqb).trans Y9;have ya:=(HX2.out.below.cell (p:=⟨_,_,_⟩) lqb).trans YA;have HCC:=hQz (fun (d:Nat) (os:Array Obj)=>HC.out (grow (redrawn w2 d) os) (HX2.out.below.trans ((below_regrown w2 d os).mono HX2.out.below.size)));go_upto_region 6 with fail;have Ap0:=fun d os=>cell_regrown p0 d os;have Ap1:=fun d os=>cell_regrown p1 d os;have Ax7:=fun d os=>cell_regrown x7 d os;have Ay7:=fun d os=>cell_regrown y7 d os;have Ax9:=fun d os=>cell_regrown x9 d os;have Axa:=fun d os=>cell_regrown xa d os;have Ay9:=fun d os=>cell_regrown y9 d os;have Aya:=fun d os=>cell_regrown ya d os;refine wp_region_quiet_below (by kernel_rfl) (by kernel_rfl) ?_
           repeat (go_big_quiet_step (exact Calls.regrown_of (HCC.out _ _)))
           refine wpQuiet_nil ?_;intro w3 hw'
           have hbw9:Below w2.heap.size w2 w3:=by
            obtain ⟨⟨dq,osq⟩,rfl⟩:=hw';exact below_regrown w2 dq osq
           clear hw';have HX3:=hQz (HX2.out.keep hbw9);clear hbw9 Ap0 Ap1 Ax7 Ay7 Ax9 Axa Ay9 Aya;clear p0 p1 x7 y7 x9 xa y9 ya;go_wp2_with fail;go_ret;exact ⟨by first|rfl|simp,HX3.out.below⟩
   · have b:decide (0≤n2)=false:=decide_eq_false hb;rw [b];by_cases he:n1=0
     · have e:decide (n1=0)=true:=decide_eq_true he;have e':(n1==0)=true:=by simpa using he
       rw [e];clear he e;have p0:=HX.out.c0;have p1:=HX.out.c1;have x7:=(HX.out.below.cell (p:=⟨_,_,_⟩) la).trans X7;have y7:=(HX.out.below.cell (p:=⟨_,_,_⟩) lb).trans Y7;have x9:=(HX.out.below.cell (p:=⟨_,_,_⟩) lsb).trans X9;have xa:=(HX.out.below.cell (p:=⟨_,_,_⟩) lsb).trans XA;have y9:=(HX.out.below.cell (p:=⟨_,_,_⟩) lqb).trans Y9;have ya:=(HX.out.below.cell (p:=⟨_,_,_⟩) lqb).trans YA;go_enter Tryz.func111,Tryz.ntmps111;go_upto_region 3 with fail;have Ap0:=fun d os=>cell_regrown p0 d os;have Ap1:=fun d os=>cell_regrown p1 d os;have Ax7:=fun d os=>cell_regrown x7 d os;have Ay7:=fun d os=>cell_regrown y7 d os;have Ax9:=fun d os=>cell_regrown x9 d os;have Axa:=fun d os=>cell_regrown xa d os;have Ay9:=fun d os=>cell_regrown y9 d os;have Aya:=fun d os=>cell_regrown ya d os;refine wp_region_quiet_below (by kernel_rfl) (by kernel_rfl) ?_
       repeat (go_big_quiet_step (fail))
       refine wpQuiet_nil ?_;intro w1 hw'
       have hbw9:Below W0.heap.size W0 w1:=by
        obtain ⟨⟨dq,osq⟩,rfl⟩:=hw';exact below_regrown W0 dq osq
       clear hw';have HX1:=hQz (HX.out.keep hbw9);clear hbw9 Ap0 Ap1 Ax7 Ay7 Ax9 Axa Ay9 Aya;clear p0 p1 x7 y7 x9 xa y9 ya;have p0:=HX1.out.c0;have p1:=HX1.out.c1;have x7:=(HX1.out.below.cell (p:=⟨_,_,_⟩) la).trans X7;have y7:=(HX1.out.below.cell (p:=⟨_,_,_⟩) lb).trans Y7;have x9:=(HX1.out.below.cell (p:=⟨_,_,_⟩) lsb).trans X9;have xa:=(HX1.out.below.cell (p:=⟨_,_,_⟩) lsb).trans XA;have y9:=(HX1.out.below.cell (p:=⟨_,_,_⟩) lqb).trans Y9;have ya:=(HX1.out.below.cell (p:=⟨_,_,_⟩) lqb).trans YA;go_upto_region 4 with fail;have Ap0:=fun d os=>cell_regrown p0 d os;have Ap1:=fun d os=>cell_regrown p1 d os;have Ax7:=fun d os=>cell_regrown x7 d os;have Ay7:=fun d os=>cell_regrown y7 d os;have Ax9:=fun d os=>cell_regrown x9 d os;have Axa:=fun d os=>cell_regrown xa d os;have Ay9:=fun d os=>cell_regrown y9 d os;have Aya:=fun d os=>cell_regrown ya d os;refine wp_region_quiet_below (by kernel_rfl) (by kernel_rfl) ?_
       repeat (go_big_quiet_step (fail))
       refine wpQuiet_nil ?_;intro w2 hw'
       have hbw9:Below w1.heap.size w1 w2:=by
        obtain ⟨⟨dq,osq⟩,rfl⟩:=hw';exact below_regrown w1 dq osq
       clear hw';have HX2:=hQz (HX1.out.keep hbw9);clear hbw9 Ap0 Ap1 Ax7 Ay7 Ax9 Axa Ay9 Aya;clear p0 p1 x7 y7 x9 xa y9 ya;have p0:=HX2.out.c0;have p1:=HX2.out.c1;have x7:=(HX2.out.below.cell (p:=⟨_,_,_⟩) la).trans X7;have y7:=(HX2.out.below.cell (p:=⟨_,_,_⟩) lb).trans Y7;have x9:=(HX2.out.below.cell (p:=⟨_,_,_⟩) lsb).trans X9;have xa:=(HX2.out.below.cell (p:=⟨_,_,_⟩) lsb).trans XA;have y9:=(HX2.out.below.cell (p:=⟨_,_,_⟩) lqb).trans Y9;have ya:=(HX2.out.below.cell (p:=⟨_,_,_⟩) lqb).trans YA;go_upto_region 6 with fail;have Ap0:=fun d os=>cell_regrown p0 d os;have Ap1:=fun d os=>cell_regrown p1 d os;have Ax7:=fun d os=>cell_regrown x7 d os;have Ay7:=fun d os=>cell_regrown y7 d os;have Ax9:=fun d os=>cell_regrown x9 d os;have Axa:=fun d os=>cell_regrown xa d os;have Ay9:=fun d os=>cell_regrown y9 d os;have Aya:=fun d os=>cell_regrown ya d os;refine wp_region_quiet_below (by kernel_rfl) (by kernel_rfl) ?_
       repeat (go_big_quiet_step (fail))
       refine wpQuiet_nil ?_;intro w3 hw'
       have hbw9:Below w2.heap.size w2 w3:=by
        obtain ⟨⟨dq,osq⟩,rfl⟩:=hw';exact below_regrown w2 dq osq
       clear hw';have HX3:=hQz (HX2.out.keep hbw9);clear hbw9 Ap0 Ap1 Ax7 Ay7 Ax9 Axa Ay9 Aya;clear p0 p1 x7 y7 x9 xa y9 ya;go_wp2_with fail;go_ret;exact ⟨by first|rfl|simp,HX3.out.below⟩
     · have e:decide (n1=0)=false:=decide_eq_false he;have e':(n1==0)=false:=by simpa using he
       rw [e];clear he e;have p0:=HX.out.c0;have p1:=HX.out.c1;have x7:=(HX.out.below.cell (p:=⟨_,_,_⟩) la).trans X7;have y7:=(HX.out.below.cell (p:=⟨_,_,_⟩) lb).trans Y7;have x9:=(HX.out.below.cell (p:=⟨_,_,_⟩) lsb).trans X9;have xa:=(HX.out.below.cell (p:=⟨_,_,_⟩) lsb).trans XA;have y9:=(HX.out.below.cell (p:=⟨_,_,_⟩) lqb).trans Y9;have ya:=(HX.out.below.cell (p:=⟨_,_,_⟩) lqb).trans YA;go_enter Tryz.func111,Tryz.ntmps111;go_upto_region 3 with fail;have Ap0:=fun d os=>cell_regrown p0 d os;have Ap1:=fun d os=>cell_regrown p1 d os;have Ax7:=fun d os=>cell_regrown x7 d os;have Ay7:=fun d os=>cell_regrown y7 d os;have Ax9:=fun d os=>cell_regrown x9 d os;have Axa:=fun d os=>cell_regrown xa d os;have Ay9:=fun d os=>cell_regrown y9 d os;have Aya:=fun d os=>cell_regrown ya d os;refine wp_region_quiet_below (by kernel_rfl) (by kernel_rfl) ?_
       repeat (go_big_quiet_step (fail))
       refine wpQuiet_nil ?_;intro w1 hw'
       have hbw9:Below W0.heap.size W0 w1:=by
        obtain ⟨⟨dq,osq⟩,rfl⟩:=hw';exact below_regrown W0 dq osq
       clear hw';have HX1:=hQz (HX.out.keep hbw9);clear hbw9 Ap0 Ap1 Ax7 Ay7 Ax9 Axa Ay9 Aya;clear p0 p1 x7 y7 x9 xa y9 ya;have p0:=HX1.out.c0;have p1:=HX1.out.c1;have x7:=(HX1.out.below.cell (p:=⟨_,_,_⟩) la).trans X7;have y7:=(HX1.out.below.cell (p:=⟨_,_,_⟩) lb).trans Y7;have x9:=(HX1.out.below.cell (p:=⟨_,_,_⟩) lsb).trans X9;have xa:=(HX1.out.below.cell (p:=⟨_,_,_⟩) lsb).trans XA;have y9:=(HX1.out.below.cell (p:=⟨_,_,_⟩) lqb).trans Y9;have ya:=(HX1.out.below.cell (p:=⟨_,_,_⟩) lqb).trans YA;go_upto_region 4 with fail;have Ap0:=fun d os=>cell_regrown p0 d os;have Ap1:=fun d os=>cell_regrown p1 d os;have Ax7:=fun d os=>cell_regrown x7 d os;have Ay7:=fun d os=>cell_regrown y7 d os;have Ax9:=fun d os=>cell_regrown x9 d os;have Axa:=fun d os=>cell_regrown xa d os;have Ay9:=fun d os=>cell_regrown y9 d os;have Aya:=fun d os=>cell_regrown ya d os;refine wp_region_quiet_below (by kernel_rfl) (by kernel_rfl) ?_
       repeat (go_big_quiet_step (fail))
       refine wpQuiet_nil ?_;intro w2 hw'
       have hbw9:Below w1.heap.size w1 w2:=by
        obtain ⟨⟨dq,osq⟩,rfl⟩:=hw';exact below_regrown w1 dq osq
       clear hw';have HX2:=hQz (HX1.out.keep hbw9);clear hbw9 Ap0 Ap1 Ax7 Ay7 Ax9 Axa Ay9 Aya;clear p0 p1 x7 y7 x9 xa y9 ya;have p0:=HX2.out.c0;have p1:=HX2.out.c1;have x7:=(HX2.out.below.cell (p:=⟨_,_,_⟩) la).trans X7;have y7:=(HX2.out.below.cell (p:=⟨_,_,_⟩) lb).trans Y7;have x9:=(HX2.out.below.cell (p:=⟨_,_,_⟩) lsb).trans X9;have xa:=(HX2.out.below.cell (p:=⟨_,_,_⟩) lsb).trans XA;have y9:=(HX2.out.below.cell (p:=⟨_,_,_⟩) lqb).trans Y9;have ya:=(HX2.out.below.cell (p:=⟨_,_,_⟩) lqb).trans YA;have HCC:=hQz (fun (d:Nat) (os:Array Obj)=>HC.out (grow (redrawn w2 d) os) (HX2.out.below.trans ((below_regrown w2 d os).mono HX2.out.below.size)));go_upto_region 6 with fail;have Ap0:=fun d os=>cell_regrown p0 d os;have Ap1:=fun d os=>cell_regrown p1 d os;have Ax7:=fun d os=>cell_regrown x7 d os;have Ay7:=fun d os=>cell_regrown y7 d os;have Ax9:=fun d os=>cell_regrown x9 d os;have Axa:=fun d os=>cell_regrown xa d os;have Ay9:=fun d os=>cell_regrown y9 d os;have Aya:=fun d os=>cell_regrown ya d os;refine wp_region_quiet_below (by kernel_rfl) (by kernel_rfl) ?_
       repeat (go_big_quiet_step (exact Calls.regrown_of (HCC.out _ _)))
       refine wpQuiet_nil ?_;intro w3 hw'
       have hbw9:Below w2.heap.size w2 w3:=by
        obtain ⟨⟨dq,osq⟩,rfl⟩:=hw';exact below_regrown w2 dq osq
       clear hw';have HX3:=hQz (HX2.out.keep hbw9);clear hbw9 Ap0 Ap1 Ax7 Ay7 Ax9 Axa Ay9 Aya;clear p0 p1 x7 y7 x9 xa y9 ya;go_wp2_with fail;go_ret;exact ⟨by first|rfl|simp,HX3.out.below⟩
end Go.Proofs.YtnokkmiaeacogaaGreat
