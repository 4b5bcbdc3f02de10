import Derived.Test.YtnokkmiaeacogaaGreatM35
import Derived.Test.YtnokkmiaeacogaaGreatM36
import Derived.Test.YtnokkmiaeacogaaGreatM22
import Derived.Test.YtnokkmiaeacogaaGreatM28
import Derived.Test.YtnokkmiaeacogaaGreatM32
import Derived.Deep.Cut
set_option linter.unusedVariables false
set_option linter.unusedSimpArgs false
namespace Go.Proofs.YtnokkmiaeacogaaGreat
open Go.RowKit Go.Shelf Go.Sort
attribute [local go_sem] Oper.semAt_some
set_option maxRecDepth 100000
set_option maxHeartbeats 12800000
section
variable (h:Nat) (A B:TT) (ba oa bb ob:Nat) (no:Option Addr) (nc:Nat) (xo:Option Addr) (xc:Nat) (ao:Option Addr) (ac:Nat) (oo:Option Addr) (oc:Nat) (no2:Option Addr) (nc2:Nat) (xo2:Option Addr) (xc2:Nat) (ao2:Option Addr) (ac2:Nat) (oo2:Option Addr) (oc2:Nat) (w:World)
 (hA:OpT w h A ba oa no nc xo xc ao ac oo oc) (hB:OpT w h B bb ob no2 nc2 xo2 xc2 ao2 ac2 oo2 oc2)
include hA hB
theorem w_flagsMeet:Calls Tryz.prog 114 #[.agg #[.pointer (some ⟨ba,oa,none⟩),.pointer (some ⟨bb,ob,none⟩)]] w fun e w'=>e= .returned (.bool (flM A B))∧Below w.heap.size w w':=
 flags_met ba oa bb ob w hA.lt hB.lt _ _ _ _ _ _ hA.d1 hA.d2 hA.d3 hB.d1 hB.d2 hB.d3
theorem w_numsMeet (fa:spB A.nums=true) (fb:spB B.nums=true):Calls Tryz.prog 115 #[.agg #[.pointer (some ⟨ba,oa,none⟩),.pointer (some ⟨bb,ob,none⟩)]] w fun e w'=>e= .returned (.bool (spM A.nums B.nums))∧Below w.heap.size w w':=by
 have x4:=hA.d4;have y4:=hB.d4;have za:=hA.zn;have zb:=hB.zn;rcases sp_one fa with ea|⟨p,ea,a1,a2⟩
 · rw [ea] at x4 ⊢;exact nums_met_none ba oa bb ob w hA.lt _ _ x4
 · rcases sp_one fb with eb|⟨q,eb,b1,b2⟩
   · rw [ea] at x4 ⊢;rw [eb] at y4 ⊢;exact nums_met_out ba oa bb ob w hA.lt hB.lt _ _ _ _ _ (by simp) x4 y4
   · obtain ⟨sb,so,es,ls,hs⟩:=hA.sp.row (by rw [ea];simp);obtain ⟨qb,qo,eq,lq,hq⟩:=hB.sp.row (by rw [eb];simp);have k1:=hs 0 (by rw [ea];simp);have k2:=hq 0 (by rw [eb];simp);simp only [ea,List.getElem_cons_zero,Nat.zero_mul,Nat.add_zero] at k1;simp only [eb,List.getElem_cons_zero,Nat.zero_mul,Nat.add_zero] at k2;rw [ea,es] at x4;rw [eb,eq] at y4;have z1:=za p (by rw [ea];exact List.mem_singleton.2 rfl);have z2:=zb q (by rw [eb];exact List.mem_singleton.2 rfl);rw [ea,eb];exact nums_met_both ba oa bb ob w hA.lt hB.lt sb so qb qo _ _ _ _ (by simp) (by simp) ls lq _ _ _ _ _ _ x4 y4 k1.1 k1.2 k2.1 k2.2 (hQz fun u=>w_above _ _ u z1.1 z2.2) (hQz fun u=>w_above _ _ u z2.1 z1.2)
theorem w_textsMeet (fb:rK B.texts B.texts.length=true):Calls Tryz.prog 116 #[.agg #[.pointer (some ⟨ba,oa,none⟩),.pointer (some ⟨bb,ob,none⟩)]] w fun e w'=>e= .returned (.bool (txM A B))∧Below w.heap.size w w':=
 texts_met ba oa bb ob w hA.lt hB.lt A.any B.any xo _ xc xo2 _ xc2 A.texts B.texts hA.d5 hA.d6 hB.d5 hB.d6 hA.tx hB.tx rfl rfl hA.caps.2.1 hB.caps.2.1 hA.lens.2.1 hB.lens.2.1 fb
theorem w_arraysMeet (ih:0<B.arrs.length→MtOk h) (fa:arB (fmN h) A.arrs=true) (fb:arB (fmN h) B.arrs=true):Calls Tryz.prog 117 #[.agg #[.pointer (some ⟨ba,oa,none⟩),.pointer (some ⟨bb,ob,none⟩)]] w fun e w'=>e= .returned (.bool (arM (mtN h) A.arrs B.arrs))∧Below w.heap.size w w':=by
 have x7:=hA.d7;have y7:=hB.d7;rcases ar_one fa with ea|⟨x,ea,a1⟩
 · rw [ea] at x7 ⊢;exact arrs_met_none ba oa bb ob w hA.lt _ _ x7
 · rcases ar_one fb with eb|⟨y,eb,b1⟩
   · rw [ea] at x7 ⊢;rw [eb] at y7 ⊢;exact arrs_met_out ba oa bb ob w hA.lt hB.lt _ _ _ _ _ (by simp) x7 y7
   · obtain ⟨sb,so,es,hs⟩:=hA.ar (by rw [ea];simp);obtain ⟨qb,qo,eq,hq⟩:=hB.ar (by rw [eb];simp);have k1:=hs 0 (by rw [ea];simp);have k2:=hq 0 (by rw [eb];simp);simp only [ea,List.getElem_cons_zero,Nat.zero_mul,Nat.add_zero] at k1;simp only [eb,List.getElem_cons_zero,Nat.zero_mul,Nat.add_zero] at k2;rw [ea,es] at x7;rw [eb,eq] at y7;rw [ea,eb];exact arrs_met_both ba oa bb ob w hA.lt hB.lt sb so qb qo _ _ _ _ (by simp) (by simp) k1.1.lt k2.1.lt x.min x.max y.min y.max _ x7 y7 k1.2.1 k1.2.2 k2.2.1 k2.2.2 (hQz fun u hu=>ih (by rw [eb];simp) _ _ _ _ _ _ u (k1.1.keep hu) (k2.1.keep hu) a1 b1)
end
theorem met1_0 (B ba oa bb ob:Nat) (r:Bool) (w:World) (p0:w.cell? ⟨B,0,none⟩=some (.pointer (some ⟨ba,oa,none⟩))) (p1:w.cell? ⟨B,1,none⟩=some (.pointer (some ⟨bb,ob,none⟩)))
 (HC:Hid (Calls Tryz.prog 114 #[.agg #[.pointer (some ⟨ba,oa,none⟩),.pointer (some ⟨bb,ob,none⟩)]] w fun e w'=>e= .returned (.bool r)∧Below w.heap.size w w')):Calls Tryz.prog 70 #[.func (.func 114) #[] #[],.pointer (some ⟨B,0,none⟩)] w fun e w'=>e= .returned (.bool r)∧Below w.heap.size w w':=by
 go_enter Tryz.func70,Tryz.ntmps70;go_wp2_with fail;refine HC.out.mono ?_;rintro e w2 ⟨rfl,hq⟩;go_wp2_with fail;go_ret;exact ⟨rfl,hq⟩
theorem met1_1 (B ba oa bb ob:Nat) (r:Bool) (w:World) (p0:w.cell? ⟨B,0,none⟩=some (.pointer (some ⟨ba,oa,none⟩))) (p1:w.cell? ⟨B,1,none⟩=some (.pointer (some ⟨bb,ob,none⟩)))
 (HC:Hid (Calls Tryz.prog 115 #[.agg #[.pointer (some ⟨ba,oa,none⟩),.pointer (some ⟨bb,ob,none⟩)]] w fun e w'=>e= .returned (.bool r)∧Below w.heap.size w w')):Calls Tryz.prog 70 #[.func (.func 115) #[] #[],.pointer (some ⟨B,0,none⟩)] w fun e w'=>e= .returned (.bool r)∧Below w.heap.size w w':=by
 go_enter Tryz.func70,Tryz.ntmps70;go_wp2_with fail;refine HC.out.mono ?_;rintro e w2 ⟨rfl,hq⟩;go_wp2_with fail;go_ret;exact ⟨rfl,hq⟩
theorem met1_2 (B ba oa bb ob:Nat) (r:Bool) (w:World) (p0:w.cell? ⟨B,0,none⟩=some (.pointer (some ⟨ba,oa,none⟩))) (p1:w.cell? ⟨B,1,none⟩=some (.pointer (some ⟨bb,ob,none⟩)))
 (HC:Hid (Calls Tryz.prog 116 #[.agg #[.pointer (some ⟨ba,oa,none⟩),.pointer (some ⟨bb,ob,none⟩)]] w fun e w'=>e= .returned (.bool r)∧Below w.heap.size w w')):Calls Tryz.prog 70 #[.func (.func 116) #[] #[],.pointer (some ⟨B,0,none⟩)] w fun e w'=>e= .returned (.bool r)∧Below w.heap.size w w':=by
 go_enter Tryz.func70,Tryz.ntmps70;go_wp2_with fail;refine HC.out.mono ?_;rintro e w2 ⟨rfl,hq⟩;go_wp2_with fail;go_ret;exact ⟨rfl,hq⟩
theorem met1_3 (B ba oa bb ob:Nat) (r:Bool) (w:World) (p0:w.cell? ⟨B,0,none⟩=some (.pointer (some ⟨ba,oa,none⟩))) (p1:w.cell? ⟨B,1,none⟩=some (.pointer (some ⟨bb,ob,none⟩)))
 (HC:Hid (Calls Tryz.prog 117 #[.agg #[.pointer (some ⟨ba,oa,none⟩),.pointer (some ⟨bb,ob,none⟩)]] w fun e w'=>e= .returned (.bool r)∧Below w.heap.size w w')):Calls Tryz.prog 70 #[.func (.func 117) #[] #[],.pointer (some ⟨B,0,none⟩)] w fun e w'=>e= .returned (.bool r)∧Below w.heap.size w w':=by
 go_enter Tryz.func70,Tryz.ntmps70;go_wp2_with fail;refine HC.out.mono ?_;rintro e w2 ⟨rfl,hq⟩;go_wp2_with fail;go_ret;exact ⟨rfl,hq⟩
theorem met1_4 (B ba oa bb ob:Nat) (r:Bool) (w:World) (p0:w.cell? ⟨B,0,none⟩=some (.pointer (some ⟨ba,oa,none⟩))) (p1:w.cell? ⟨B,1,none⟩=some (.pointer (some ⟨bb,ob,none⟩)))
 (HC:Hid (Calls Tryz.prog 118 #[.agg #[.pointer (some ⟨ba,oa,none⟩),.pointer (some ⟨bb,ob,none⟩)]] w fun e w'=>e= .returned (.bool r)∧Below w.heap.size w w')):Calls Tryz.prog 70 #[.func (.func 118) #[] #[],.pointer (some ⟨B,0,none⟩)] w fun e w'=>e= .returned (.bool r)∧Below w.heap.size w w':=by
 go_enter Tryz.func70,Tryz.ntmps70;go_wp2_with fail;refine HC.out.mono ?_;rintro e w2 ⟨rfl,hq⟩;go_wp2_with fail;go_ret;exact ⟨rfl,hq⟩
theorem w_meeting (w:World):Calls Tryz.prog 69 #[] w fun e w'=>e= .returned (.slice (some ⟨w.heap.size,0,none⟩) 5 5)∧w'=w.alloc (.cells #[.func (.func 114) #[] #[],.func (.func 115) #[] #[],.func (.func 116) #[] #[],.func (.func 117) #[] #[],.func (.func 118) #[] #[]] 103):=by
 go_enter Tryz.func69,Tryz.ntmps69;go_wp2_with fail;go_ret;exact ⟨rfl,rfl⟩
def mtF (k:Nat):Value:=match k with|0=> .func (.func 114) #[] #[]|1=> .func (.func 115) #[] #[]|2=> .func (.func 116) #[] #[]|3=> .func (.func 117) #[] #[]|_=> .func (.func 118) #[] #[]
theorem meet_plain (ba oa bb ob:Nat) (r:Bool) (w:World) (x0:w.cell? ⟨ba,oa,none⟩=some (.bool false)) (y0:w.cell? ⟨bb,ob,none⟩=some (.bool false))
 (HC:Hid (∀ P u,Bx2c w u P (.pointer (some ⟨ba,oa,none⟩)) (.pointer (some ⟨bb,ob,none⟩))→∀ so,(∀ u2,Below u.heap.size u u2→∃ b off,so=some ⟨b,off,none⟩∧∀ k,k<5→u2.cell? ⟨b,off+k,none⟩=some (mtF k))→Calls Tryz.prog 65 #[.slice so 5 5,.func (.func 70) #[] #[.pointer (some ⟨P,0,none⟩)]] u fun e w'=>e= .returned (.bool r)∧Below u.heap.size u w')):
 Calls Tryz.prog 20 #[.pointer (some ⟨ba,oa,none⟩),.pointer (some ⟨bb,ob,none⟩)] w fun e w'=>e= .returned (.bool r)∧Below w.heap.size w w':=by
 go_enter Tryz.func20,Tryz.ntmps20;go_upto_region 5 with fail;obtain ⟨PB,hPB⟩:∃ PB,w.heap.size=PB:=⟨_,rfl⟩;obtain ⟨W2,hW2⟩:∃ W2,w.alloc (.cells #[.pointer (some ⟨ba,oa,none⟩),.pointer (some ⟨bb,ob,none⟩)] 100)=W2:=⟨_,rfl⟩;have HX:Hid (Bx2c w W2 PB (.pointer (some ⟨ba,oa,none⟩)) (.pointer (some ⟨bb,ob,none⟩))):=by rw [← hW2,← hPB];exact q07 w _ _ _
 have HWq:=hQz hW2;have HBq:=hQz hPB;clear hW2 hPB;go_upto_region 6 with fail
 try rw [HWq.out]
 try rw [HBq.out]
 clear HWq HBq x0 y0;go_wp2_with fail;refine (w_meeting _).mono ?_;rintro e w3 ⟨rfl,hw3⟩;obtain ⟨SB,hSB⟩:∃ SB,W2.heap.size=SB:=⟨_,rfl⟩;have hb3:Below W2.heap.size W2 w3:=by rw [hw3];exact q05 W2 _
 have HX3:=hQz (HX.out.keep hb3);have HR3:Hid (w3.heap[SB]? =some (.cells #[.func (.func 114) #[] #[],.func (.func 115) #[] #[],.func (.func 116) #[] #[],.func (.func 117) #[] #[],.func (.func 118) #[] #[]] 103 (0,0))):=by show _=_;rw [hw3,← hSB];exact World.alloc_heap_new W2 _
 rw [hSB];clear hw3 hSB hb3
 have HC3:=hQz (HC.out PB w3 HX3.out (some ⟨SB,0,none⟩) (fun u hu=>⟨SB,0,rfl,fun k hk=>by
  have hr:=(hu.block _ (q00 HR3.out)).trans HR3.out;rw [Nat.zero_add];rw [cell_of_row _ _ k _ _ _ hr]
  match k,hk with
  | 0,_=>rfl
  | 1,_=>rfl
  | 2,_=>rfl
  | 3,_=>rfl
  | 4,_=>rfl⟩))
 go_wp2_with fail;refine HC3.out.mono ?_;rintro e w4 ⟨rfl,hq⟩;have HX4:=hQz (HX3.out.keep hq);clear hq;go_wp2_with fail;go_ret;exact ⟨rfl,HX4.out.below⟩
theorem has_meets (h:Nat) (A B:TT) (ih:0<B.arrs.length∨0<B.objs.length→MtOk h) (ba oa bb ob:Nat) (w:World) (hA:PtT w (h+1) A ba oa) (hB:PtT w (h+1) B bb ob) (fa:fmN (h+1) A=true) (fb:fmN (h+1) B=true) (P:Nat) (u:World) (hu:Bx2c w u P (.pointer (some ⟨ba,oa,none⟩)) (.pointer (some ⟨bb,ob,none⟩))) (so:Option Addr) (hs:∀ u2,Below u.heap.size u u2→∃ b off,so=some ⟨b,off,none⟩∧∀ k,k<5→u2.cell? ⟨b,off+k,none⟩=some (mtF k)):
 Calls Tryz.prog 65 #[.slice so 5 5,.func (.func 70) #[] #[.pointer (some ⟨P,0,none⟩)]] u fun e w'=>e= .returned (.bool (mtK (mtN h) A B))∧Below u.heap.size u w':=by
 obtain ⟨a1,a2,a3,a4,_,_⟩:=fm_open fa;obtain ⟨b1,b2,b3,b4,_,_⟩:=fm_open fb
 have key:=has_met so 5 5 mtF (fun k=>match k with|0=>flM A B|1=>spM A.nums B.nums|2=>txM A B|3=>arM (mtN h) A.arrs B.arrs|_=>obM (mtN h) A.objs B.objs) P u (Nat.le_refl _) (by decide) (hQz fun u2 hu2 _=>hs u2 hu2)
  (hQz fun k hk u2 hu2=>by
   have hx:=hu.keep hu2;obtain ⟨no,nc,xo,xc,ao,ac,oo,oc,hA'⟩:=(hA.keep hx.below).open;obtain ⟨no2,nc2,xo2,xc2,ao2,ac2,oo2,oc2,hB'⟩:=(hB.keep hx.below).open
   match k,hk with
   | 0,_=>exact met1_0 P ba oa bb ob _ u2 hx.c0 hx.c1 (hQz (w_flagsMeet h A B ba oa bb ob _ _ _ _ _ _ _ _ _ _ _ _ _ _ _ _ u2 hA' hB'))
   | 1,_=>exact met1_1 P ba oa bb ob _ u2 hx.c0 hx.c1 (hQz (w_numsMeet h A B ba oa bb ob _ _ _ _ _ _ _ _ _ _ _ _ _ _ _ _ u2 hA' hB' a2 b2))
   | 2,_=>exact met1_2 P ba oa bb ob _ u2 hx.c0 hx.c1 (hQz (w_textsMeet h A B ba oa bb ob _ _ _ _ _ _ _ _ _ _ _ _ _ _ _ _ u2 hA' hB' b1))
   | 3,_=>exact met1_3 P ba oa bb ob _ u2 hx.c0 hx.c1 (hQz (w_arraysMeet h A B ba oa bb ob _ _ _ _ _ _ _ _ _ _ _ _ _ _ _ _ u2 hA' hB' (fun hh=>ih (.inl hh)) a3 b3))
   | 4,_=>exact met1_4 P ba oa bb ob _ u2 hx.c0 hx.c1 (hQz (w_objectsMeet h A B (fun hh=>ih (.inr hh)) ba oa bb ob _ _ _ _ _ _ _ _ _ _ _ _ _ _ _ _ u2 hA' hB' a4 b4)))
  (hQz fun k hk=>by
   match k,hk with
   | 0,_=>exact ⟨_,rfl⟩
   | 1,_=>exact ⟨_,rfl⟩
   | 2,_=>exact ⟨_,rfl⟩
   | 3,_=>exact ⟨_,rfl⟩
   | 4,_=>exact ⟨_,rfl⟩)
 have e:((List.range 5).any fun k=>match k with|0=>flM A B|1=>spM A.nums B.nums|2=>txM A B|3=>arM (mtN h) A.arrs B.arrs|_=>obM (mtN h) A.objs B.objs)=mtK (mtN h) A B:=by
  show (flM A B||(spM A.nums B.nums||(txM A B||(arM (mtN h) A.arrs B.arrs||(obM (mtN h) A.objs B.objs||false)))))=_;unfold mtK
  cases flM A B <;> cases spM A.nums B.nums <;> cases txM A B <;> cases arM (mtN h) A.arrs B.arrs <;> cases obM (mtN h) A.objs B.objs <;> rfl
 rw [e] at key;exact key
theorem kv_zero:∀ a0 a1 a2 a3 a4 a5 a6:Bool,(kvL [a0,a1,a2,a3,a4,a5,a6]==0)= !(a0||(a1||(a2||(a3||(a4||(a5||a6)))))):=by decide +kernel
theorem kd_never (T:TT):(kdN T != 0)= !T.never:=by
 show (!(kdN T==0))=_;unfold kdN kdV TT.never
 cases T.all with
 | true=>rfl
 | false=>
  rw [if_neg (by simp)];unfold TT.bare;have h:=kv_zero T.nul T.fls T.tru (decide (0<T.nums.length)) (T.any||decide (0<T.texts.length)) (decide (0<T.arrs.length)) (decide (0<T.objs.length));rw [h]
  cases T.nul <;> cases T.fls <;> cases T.tru <;> cases T.any <;> cases T.nums <;> cases T.texts <;> cases T.arrs <;> cases T.objs <;> rfl
theorem w_some (h:Nat) (T:TT) (b off:Nat) (w:World) (hT:PtT w h T b off):Calls Tryz.prog 68 #[.pointer (some ⟨b,off,none⟩)] w fun e w'=>e= .returned (.bool (!T.never))∧Below w.heap.size w w':=by
 obtain ⟨c0,c1,c2,c3,c4,c5,c6,c7,c8,⟨e0,e1,e2,e3,e4,e5,e6,e7,e8⟩,hI⟩:=hT.ok;have HC:=hQz (w_sKinds h T _ w hI);have HK:=hQz (kd_never T);obtain ⟨ta,tb,tc,td,⟨teo,ten,tec⟩,tf,⟨tgo,tgn,tgc⟩,⟨tio,tinn,tic⟩,⟨tjo,tjn,tjc⟩,esht⟩:=q02 hI;simp only [Value.agg.injEq,Array.mk.injEq,List.cons.injEq,and_true] at esht;obtain ⟨rfl,rfl,rfl,rfl,rfl,rfl,rfl,rfl,rfl⟩:=esht;generalize kdN T=k at HC HK;generalize (!T.never)=r at HK ⊢;clear hI hT;go_enter Tryz.func68,Tryz.ntmps68;go_wp2_with fail;refine HC.out.mono ?_;rintro e w2 ⟨rfl,hq⟩;go_wp2_with fail;go_ret;exact ⟨by rw [← HK.out];rfl,hq⟩
theorem meet_all (ba oa bb ob:Nat) (r:Bool) (w:World) (x0:w.cell? ⟨ba,oa,none⟩=some (.bool true)) (HC:Hid (Calls Tryz.prog 68 #[.pointer (some ⟨bb,ob,none⟩)] w fun e w'=>e= .returned (.bool r)∧Below w.heap.size w w')):Calls Tryz.prog 20 #[.pointer (some ⟨ba,oa,none⟩),.pointer (some ⟨bb,ob,none⟩)] w fun e w'=>e= .returned (.bool r)∧Below w.heap.size w w':=by
 go_enter Tryz.func20,Tryz.ntmps20;go_wp2_with fail;refine HC.out.mono ?_;rintro e w2 ⟨rfl,hq⟩;go_wp2_with fail;go_ret;exact ⟨rfl,hq⟩
theorem meet_all2 (ba oa bb ob:Nat) (r:Bool) (w:World) (x0:w.cell? ⟨ba,oa,none⟩=some (.bool false)) (y0:w.cell? ⟨bb,ob,none⟩=some (.bool true)) (HC:Hid (Calls Tryz.prog 68 #[.pointer (some ⟨ba,oa,none⟩)] w fun e w'=>e= .returned (.bool r)∧Below w.heap.size w w')):Calls Tryz.prog 20 #[.pointer (some ⟨ba,oa,none⟩),.pointer (some ⟨bb,ob,none⟩)] w fun e w'=>e= .returned (.bool r)∧Below w.heap.size w w':=by
 go_enter Tryz.func20,Tryz.ntmps20;go_wp2_with fail;refine HC.out.mono ?_;rintro e w2 ⟨rfl,hq⟩;go_wp2_with fail;go_ret;exact ⟨rfl,hq⟩
theorem w_meet:∀ h,MtOk h
 | 0=>fun A B ba oa bb ob u hA hB fa fb=>by cases fa
 | h+1=>fun A B ba oa bb ob u hA hB fa fb=>by
  have ih:=w_meet h;obtain ⟨no,nc,xo,xc,ao,ac,oo,oc,hA'⟩:=hA.open;obtain ⟨no2,nc2,xo2,xc2,ao2,ac2,oo2,oc2,hB'⟩:=hB.open;have x0:=hA'.d0;have y0:=hB'.d0;unfold mtN
  cases ha:A.all with
  | true=>
   rw [ha] at x0;rw [if_pos rfl];exact meet_all ba oa bb ob _ u x0 (hQz (w_some (h+1) B bb ob u hB))
  | false=>
   rw [ha] at x0;rw [if_neg (by simp)]
   cases hb:B.all with
   | true=>
    rw [hb] at y0;rw [if_pos rfl];exact meet_all2 ba oa bb ob _ u x0 y0 (hQz (w_some (h+1) A ba oa u hA))
   | false=>
    rw [hb] at y0;rw [if_neg (by simp)];exact meet_plain ba oa bb ob _ u x0 y0 (hQz fun P u2 hu so hs=>has_meets h A B (fun _=>ih) ba oa bb ob u hA hB fa fb P u2 hu so hs)
theorem w_Below_v (A9 B9:Array Value) (r:Bool) (w:World) (SHP:∃ ta tb tc td teo ten tec tf tgo tgn tgc tio tinn tic tjo tjn tjc,A9= #[.bool ta,.bool tb,.bool tc,.bool td,.slice teo ten tec,.bool tf,.slice tgo tgn tgc,.slice tio tinn tic,.slice tjo tjn tjc]) (SHQ:∃ ta tb tc td teo ten tec tf tgo tgn tgc tio tinn tic tjo tjn tjc,B9= #[.bool ta,.bool tb,.bool tc,.bool td,.slice teo ten tec,.bool tf,.slice tgo tgn tgc,.slice tio tinn tic,.slice tjo tjn tjc])
 (HC:Hid (Calls Tryz.prog 19 #[.pointer (some ⟨w.heap.size,0,none⟩),.pointer (some ⟨w.heap.size+1,0,none⟩)] ((w.alloc (.cells A9 27)).alloc (.cells B9 27)) fun e w'=>e= .returned (.bool r)∧Below w.heap.size w w')):
 Calls Tryz.prog 7 #[.agg A9,.agg B9] w fun e w'=>e= .returned (.bool (r))∧Below w.heap.size w w':=by
 obtain ⟨ta,tb,tc,td,teo,ten,tec,tf,tgo,tgn,tgc,tio,tinn,tic,tjo,tjn,tjc,rfl⟩:=SHP;obtain ⟨ua,ub,uc,ud,ueo,uen,uec,uf,ugo,ugn,ugc,uio,uinn,uic,ujo,ujn,ujc,rfl⟩:=SHQ;go_enter Tryz.func7,Tryz.ntmps7;go_wp2_with fail;refine HC.out.mono ?_;rintro e w2 ⟨rfl,hq⟩;go_wp2_with fail;go_ret;exact ⟨rfl,hq⟩
theorem w_Below (h:Nat) (A B:TT) (va vb:Value) (w:World) (hA:InT w h A va) (hB:InT w h B vb) (fa:fmN h A=true) (fb:fmN h B=true):Calls Tryz.prog 7 #[va,vb] w fun e w'=>e= .returned (.bool (bwN h A B))∧Below w.heap.size w w':=by
 obtain ⟨ta,tb,tc,td,⟨teo,ten,tec⟩,tf,⟨tgo,tgn,tgc⟩,⟨tio,tinn,tic⟩,⟨tjo,tjn,tjc⟩,rfl⟩:=q02 hA;obtain ⟨ua,ub,uc,ud,⟨ueo,uen,uec⟩,uf,⟨ugo,ugn,ugc⟩,⟨uio,uinn,uic⟩,⟨ujo,ujn,ujc⟩,rfl⟩:=q02 hB;have hx:=q0b w #[.bool ta,.bool tb,.bool tc,.bool td,.slice teo ten tec,.bool tf,.slice tgo tgn tgc,.slice tio tinn tic,.slice tjo tjn tjc] #[.bool ua,.bool ub,.bool uc,.bool ud,.slice ueo uen uec,.bool uf,.slice ugo ugn ugc,.slice uio uinn uic,.slice ujo ujn ujc] 27;refine w_Below_v _ _ _ w ⟨_,_,_,_,_,_,_,_,_,_,_,_,_,_,_,_,_,rfl⟩ ⟨_,_,_,_,_,_,_,_,_,_,_,_,_,_,_,_,_,rfl⟩ (hQz ((w_lies h A B _ _ _ _ _ ⟨Nat.lt_trans (Nat.lt_succ_self _) hx.lt,_,_,_,_,_,_,_,_,_,⟨hx.one 0,hx.one 1,hx.one 2,hx.one 3,hx.one 4,hx.one 5,hx.one 6,hx.one 7,hx.one 8⟩,hA.keep hx.below⟩ ⟨hx.lt,_,_,_,_,_,_,_,_,_,⟨hx.two 0,hx.two 1,hx.two 2,hx.two 3,hx.two 4,hx.two 5,hx.two 6,hx.two 7,hx.two 8⟩,hB.keep hx.below⟩ fa fb).mono fun e w' ⟨he,hb⟩=>⟨he,hx.below.trans (hb.mono hx.below.size)⟩))
theorem w_Apart_v (A9 B9:Array Value) (r:Bool) (w:World) (SHP:∃ ta tb tc td teo ten tec tf tgo tgn tgc tio tinn tic tjo tjn tjc,A9= #[.bool ta,.bool tb,.bool tc,.bool td,.slice teo ten tec,.bool tf,.slice tgo tgn tgc,.slice tio tinn tic,.slice tjo tjn tjc]) (SHQ:∃ ta tb tc td teo ten tec tf tgo tgn tgc tio tinn tic tjo tjn tjc,B9= #[.bool ta,.bool tb,.bool tc,.bool td,.slice teo ten tec,.bool tf,.slice tgo tgn tgc,.slice tio tinn tic,.slice tjo tjn tjc])
 (HC:Hid (Calls Tryz.prog 20 #[.pointer (some ⟨w.heap.size,0,none⟩),.pointer (some ⟨w.heap.size+1,0,none⟩)] ((w.alloc (.cells A9 27)).alloc (.cells B9 27)) fun e w'=>e= .returned (.bool r)∧Below w.heap.size w w')):
 Calls Tryz.prog 8 #[.agg A9,.agg B9] w fun e w'=>e= .returned (.bool (!r))∧Below w.heap.size w w':=by
 obtain ⟨ta,tb,tc,td,teo,ten,tec,tf,tgo,tgn,tgc,tio,tinn,tic,tjo,tjn,tjc,rfl⟩:=SHP;obtain ⟨ua,ub,uc,ud,ueo,uen,uec,uf,ugo,ugn,ugc,uio,uinn,uic,ujo,ujn,ujc,rfl⟩:=SHQ;go_enter Tryz.func8,Tryz.ntmps8;go_wp2_with fail;refine HC.out.mono ?_;rintro e w2 ⟨rfl,hq⟩;go_wp2_with fail;go_ret;exact ⟨rfl,hq⟩
theorem w_Apart (h:Nat) (A B:TT) (va vb:Value) (w:World) (hA:InT w h A va) (hB:InT w h B vb) (fa:fmN h A=true) (fb:fmN h B=true):Calls Tryz.prog 8 #[va,vb] w fun e w'=>e= .returned (.bool (!mtN h A B))∧Below w.heap.size w w':=by
 obtain ⟨ta,tb,tc,td,⟨teo,ten,tec⟩,tf,⟨tgo,tgn,tgc⟩,⟨tio,tinn,tic⟩,⟨tjo,tjn,tjc⟩,rfl⟩:=q02 hA;obtain ⟨ua,ub,uc,ud,⟨ueo,uen,uec⟩,uf,⟨ugo,ugn,ugc⟩,⟨uio,uinn,uic⟩,⟨ujo,ujn,ujc⟩,rfl⟩:=q02 hB;have hx:=q0b w #[.bool ta,.bool tb,.bool tc,.bool td,.slice teo ten tec,.bool tf,.slice tgo tgn tgc,.slice tio tinn tic,.slice tjo tjn tjc] #[.bool ua,.bool ub,.bool uc,.bool ud,.slice ueo uen uec,.bool uf,.slice ugo ugn ugc,.slice uio uinn uic,.slice ujo ujn ujc] 27;refine w_Apart_v _ _ _ w ⟨_,_,_,_,_,_,_,_,_,_,_,_,_,_,_,_,_,rfl⟩ ⟨_,_,_,_,_,_,_,_,_,_,_,_,_,_,_,_,_,rfl⟩ (hQz ((w_meet h A B _ _ _ _ _ ⟨Nat.lt_trans (Nat.lt_succ_self _) hx.lt,_,_,_,_,_,_,_,_,_,⟨hx.one 0,hx.one 1,hx.one 2,hx.one 3,hx.one 4,hx.one 5,hx.one 6,hx.one 7,hx.one 8⟩,hA.keep hx.below⟩ ⟨hx.lt,_,_,_,_,_,_,_,_,_,⟨hx.two 0,hx.two 1,hx.two 2,hx.two 3,hx.two 4,hx.two 5,hx.two 6,hx.two 7,hx.two 8⟩,hB.keep hx.below⟩ fa fb).mono fun e w' ⟨he,hb⟩=>⟨he,hx.below.trans (hb.mono hx.below.size)⟩))
theorem formed12_v (sa sb sc sd:Bool) (seo:Option Addr) (sen sec:Nat) (sf:Bool) (sgo:Option Addr) (sgn sgc:Nat) (sio:Option Addr) (sinn sic:Nat) (sjo:Option Addr) (sjn sjc:Nat) (p q:Bool) (w:World) (H1:Hid (∀ u,Below w.heap.size w u→Calls Tryz.prog 14 #[.agg #[.bool sa,.bool sb,.bool sc,.bool sd,.slice seo sen sec,.bool sf,.slice sgo sgn sgc,.slice sio sinn sic,.slice sjo sjn sjc]] u fun e w'=>e= .returned (.bool p)∧Below u.heap.size u w')) (H2:Hid (∀ u,Below w.heap.size w u→Calls Tryz.prog 12 #[.agg #[.bool sa,.bool sb,.bool sc,.bool sd,.slice seo sen sec,.bool sf,.slice sgo sgn sgc,.slice sio sinn sic,.slice sjo sjn sjc]] u fun e w'=>e= .returned (.bool q)∧Below u.heap.size u w')):Calls Tryz.prog 5 #[.agg #[.bool sa,.bool sb,.bool sc,.bool sd,.slice seo sen sec,.bool sf,.slice sgo sgn sgc,.slice sio sinn sic,.slice sjo sjn sjc]] w fun e w'=>e= .returned (.bool (p&&q))∧Below w.heap.size w w':=by
 have HX:=hQz (bx1_new w #[.bool sa,.bool sb,.bool sc,.bool sd,.slice seo sen sec,.bool sf,.slice sgo sgn sgc,.slice sio sinn sic,.slice sjo sjn sjc] 27);obtain ⟨W0,hW0⟩:∃ W0,w.alloc (.cells #[.bool sa,.bool sb,.bool sc,.bool sd,.slice seo sen sec,.bool sf,.slice sgo sgn sgc,.slice sio sinn sic,.slice sjo sjn sjc] 27)=W0:=⟨_,rfl⟩;rw [hW0] at HX;have p0:W0.cell? ⟨w.heap.size,0,none⟩=_:=HX.out.one 0;have p1:W0.cell? ⟨w.heap.size,1,none⟩=_:=HX.out.one 1;have p2:W0.cell? ⟨w.heap.size,2,none⟩=_:=HX.out.one 2;have p3:W0.cell? ⟨w.heap.size,3,none⟩=_:=HX.out.one 3;have p4:W0.cell? ⟨w.heap.size,4,none⟩=_:=HX.out.one 4;have p5:W0.cell? ⟨w.heap.size,5,none⟩=_:=HX.out.one 5;have p6:W0.cell? ⟨w.heap.size,6,none⟩=_:=HX.out.one 6;have p7:W0.cell? ⟨w.heap.size,7,none⟩=_:=HX.out.one 7;have p8:W0.cell? ⟨w.heap.size,8,none⟩=_:=HX.out.one 8
 cases p with
 | false=>
  go_enter Tryz.func5,Tryz.ntmps5;go_wp2_with fail;refine (H1.out _ HX.out.below).mono ?_;rintro e w1 ⟨rfl,hq⟩;have HX1:=hQz (HX.out.keep hq);clear hq;go_wp2_with fail;go_ret;exact ⟨rfl,HX1.out.below⟩
 | true=>
  go_enter Tryz.func5,Tryz.ntmps5;go_wp2_with fail;refine (H1.out _ HX.out.below).mono ?_;rintro e w1 ⟨rfl,hq⟩;have HX1:=hQz (HX.out.keep hq);clear hq p0 p1 p2 p3 p4 p5 p6 p7 p8;have p0:w1.cell? ⟨w.heap.size,0,none⟩=_:=HX1.out.one 0;have p1:w1.cell? ⟨w.heap.size,1,none⟩=_:=HX1.out.one 1;have p2:w1.cell? ⟨w.heap.size,2,none⟩=_:=HX1.out.one 2;have p3:w1.cell? ⟨w.heap.size,3,none⟩=_:=HX1.out.one 3;have p4:w1.cell? ⟨w.heap.size,4,none⟩=_:=HX1.out.one 4;have p5:w1.cell? ⟨w.heap.size,5,none⟩=_:=HX1.out.one 5;have p6:w1.cell? ⟨w.heap.size,6,none⟩=_:=HX1.out.one 6;have p7:w1.cell? ⟨w.heap.size,7,none⟩=_:=HX1.out.one 7;have p8:w1.cell? ⟨w.heap.size,8,none⟩=_:=HX1.out.one 8;go_wp2_with fail;refine (H2.out _ HX1.out.below).mono ?_;rintro e w2 ⟨rfl,hq⟩;have HX2:=hQz (HX1.out.keep hq);clear hq;go_wp2_with fail;go_ret;exact ⟨rfl,HX2.out.below⟩
theorem q0v (h:Nat) (A:TT) (va:Value) (w:World) (hA:InT w h A va) (tA:tpN h A≤1048576):Calls Tryz.prog 5 #[va] w fun e w'=>e= .returned (.bool (decide (tpN h A≤20000)&&fmN h A))∧Below w.heap.size w w':=by
 obtain ⟨sa,sb,sc,sd,⟨seo,sen,sec⟩,sf,⟨sgo,sgn,sgc⟩,⟨sio,sinn,sic⟩,⟨sjo,sjn,sjc⟩,rfl⟩:=q02 hA;exact formed12_v _ _ _ _ _ _ _ _ _ _ _ _ _ _ _ _ _ _ _ w (hQz fun u hu=>w_FitType h A _ u (hA.keep hu) tA) (hQz fun u hu=>w_tFormed h A _ u (hA.keep hu))
def lvA:TT:= .mk false false false false false [] [⟨#[97]⟩] [] []
def lvB:TT:= .mk false false false false true [] [] [] []
def lvN:TT:= .mk false true false false false [] [] [] []
theorem lv_fm:fmN 1 lvA=true∧fmN 1 lvB=true∧fmN 1 lvN=true:=⟨by decide +kernel,by decide +kernel,by decide +kernel⟩
theorem lv_bw:bwN 1 lvA lvB=true∧bwN 1 lvB lvA=false∧mtN 1 lvA lvN=false∧mtN 1 lvA lvB=true:=⟨by decide +kernel,by decide +kernel,by decide +kernel,by decide +kernel⟩
theorem lv_inB (W:World):InT W 1 lvB (.agg #[.bool false,.bool false,.bool false,.bool false,.slice none 0 0,.bool true,.slice none 0 0,.slice none 0 0,.slice none 0 0]):=
 ⟨none,0,none,0,none,0,none,0,rfl,⟨Nat.le_refl _,Nat.le_refl _,Nat.le_refl _,Nat.le_refl _⟩,⟨Nat.zero_le _,Nat.zero_le _,Nat.zero_le _,Nat.zero_le _⟩,fun p hp=>absurd hp (List.not_mem_nil),fun p hp=>absurd hp (List.not_mem_nil),⟨fun h=>absurd h (Nat.lt_irrefl 0)⟩,⟨fun h=>absurd h (Nat.lt_irrefl 0)⟩,fun h=>absurd h (Nat.lt_irrefl 0),fun h=>absurd h (Nat.lt_irrefl 0)⟩
theorem lv_inN (W:World):InT W 1 lvN (.agg #[.bool false,.bool true,.bool false,.bool false,.slice none 0 0,.bool false,.slice none 0 0,.slice none 0 0,.slice none 0 0]):=
 ⟨none,0,none,0,none,0,none,0,rfl,⟨Nat.le_refl _,Nat.le_refl _,Nat.le_refl _,Nat.le_refl _⟩,⟨Nat.zero_le _,Nat.zero_le _,Nat.zero_le _,Nat.zero_le _⟩,fun p hp=>absurd hp (List.not_mem_nil),fun p hp=>absurd hp (List.not_mem_nil),⟨fun h=>absurd h (Nat.lt_irrefl 0)⟩,⟨fun h=>absurd h (Nat.lt_irrefl 0)⟩,fun h=>absurd h (Nat.lt_irrefl 0),fun h=>absurd h (Nat.lt_irrefl 0)⟩
theorem lv_inA {W:World} {b:Nat} (hl:b<W.heap.size) (hc:W.cell? ⟨b,0,none⟩=some (.string ⟨#[97]⟩)):InT W 1 lvA (.agg #[.bool false,.bool false,.bool false,.bool false,.slice none 0 0,.bool false,.slice (some ⟨b,0,none⟩) 1 1,.slice none 0 0,.slice none 0 0]):=by
 refine ⟨none,0,some ⟨b,0,none⟩,1,none,0,none,0,rfl,⟨Nat.le_refl _,Nat.le_refl _,Nat.le_refl _,Nat.le_refl _⟩,⟨Nat.zero_le _,by show 1≤_;decide,Nat.zero_le _,Nat.zero_le _⟩,fun p hp=>absurd hp (List.not_mem_nil),fun p hp=> ?_,⟨fun h=>absurd h (Nat.lt_irrefl 0)⟩,⟨fun _=>⟨b,0,rfl,hl,fun i hi=> ?_⟩⟩,fun h=>absurd h (Nat.lt_irrefl 0),fun h=>absurd h (Nat.lt_irrefl 0)⟩
 · obtain rfl:p=⟨#[97]⟩:=List.mem_singleton.1 hp;decide
 · obtain rfl:i=0:=by have:i<1:=hi;omega
   exact hc
theorem w_lives12 (w:World):Calls Tryz.prog 4 #[] w fun e w'=>e= .returned (.bool true)∧Below w.heap.size w w':=by
 obtain ⟨w0,hw0⟩:∃ w0,((w.alloc (.cells #[.string ⟨#[97]⟩] 9)).alloc (.cells #[.bool false,.bool false,.bool false,.bool false,.slice none 0 0,.bool false,.slice (some ⟨w.heap.size,0,none⟩) 1 1,.slice none 0 0,.slice none 0 0] 27)).alloc (.cells #[.bool false,.bool false,.bool false,.bool false,.slice none 0 0,.bool true,.slice none 0 0,.slice none 0 0,.slice none 0 0] 27)=w0:=⟨_,rfl⟩;have hB:Below w.heap.size w w0:=by rw [← hw0];exact (((Below.refl _ w).alloc (Nat.le_refl _) _).alloc (by simp) _).alloc (by simp;omega) _
 have r0:w0.heap[w.heap.size]? =some (.cells #[.string ⟨#[97]⟩] 9 (0,0)):=by rw [← hw0,Below.heap_alloc _ _ _ (by simp;omega),Below.heap_alloc _ _ _ (by simp)];exact World.alloc_heap_new w _
 have r1:w0.heap[w.heap.size+1]? =some (.cells #[.bool false,.bool false,.bool false,.bool false,.slice none 0 0,.bool false,.slice (some ⟨w.heap.size,0,none⟩) 1 1,.slice none 0 0,.slice none 0 0] 27 (0,0)):=by
  rw [← hw0,Below.heap_alloc _ _ _ (by simp)];have h:=World.alloc_heap_new (w.alloc (.cells #[.string ⟨#[97]⟩] 9)) (.cells #[.bool false,.bool false,.bool false,.bool false,.slice none 0 0,.bool false,.slice (some ⟨w.heap.size,0,none⟩) 1 1,.slice none 0 0,.slice none 0 0] 27);rw [World.size_alloc] at h;exact h
 have r2:w0.heap[w.heap.size+1+1]? =some (.cells #[.bool false,.bool false,.bool false,.bool false,.slice none 0 0,.bool true,.slice none 0 0,.slice none 0 0,.slice none 0 0] 27 (0,0)):=by
  rw [← hw0];have h:=World.alloc_heap_new ((w.alloc (.cells #[.string ⟨#[97]⟩] 9)).alloc (.cells #[.bool false,.bool false,.bool false,.bool false,.slice none 0 0,.bool false,.slice (some ⟨w.heap.size,0,none⟩) 1 1,.slice none 0 0,.slice none 0 0] 27)) (.cells #[.bool false,.bool false,.bool false,.bool false,.slice none 0 0,.bool true,.slice none 0 0,.slice none 0 0,.slice none 0 0] 27);rw [World.size_alloc,World.size_alloc] at h;exact h
 have HB0:=hQz hB;have HR0:Hid (w0.heap[w.heap.size]? =_):=r0;have HR1:Hid (w0.heap[w.heap.size+1]? =_):=r1;have HR2:Hid (w0.heap[w.heap.size+1+1]? =_):=r2;have HWq:=hQz hw0;clear hB r0 r1 r2 hw0;obtain ⟨f1,f2,f3⟩:=lv_fm;obtain ⟨b1,b2,b3,b4⟩:=lv_bw;have HAB:Hid (∀ u b,b<u.heap.size→u.cell? ⟨b,0,none⟩=some (.string ⟨#[97]⟩)→Calls Tryz.prog 7 #[.agg #[.bool false,.bool false,.bool false,.bool false,.slice none 0 0,.bool false,.slice (some ⟨b,0,none⟩) 1 1,.slice none 0 0,.slice none 0 0],.agg #[.bool false,.bool false,.bool false,.bool false,.slice none 0 0,.bool true,.slice none 0 0,.slice none 0 0,.slice none 0 0]] u fun e w'=>e= .returned (.bool true)∧Below u.heap.size u w'):=fun u b hl hc=>by have h:=w_Below 1 lvA lvB _ _ u (lv_inA hl hc) (lv_inB u) f1 f2;rw [b1] at h;exact h
 have HBA:Hid (∀ u b,b<u.heap.size→u.cell? ⟨b,0,none⟩=some (.string ⟨#[97]⟩)→Calls Tryz.prog 7 #[.agg #[.bool false,.bool false,.bool false,.bool false,.slice none 0 0,.bool true,.slice none 0 0,.slice none 0 0,.slice none 0 0],.agg #[.bool false,.bool false,.bool false,.bool false,.slice none 0 0,.bool false,.slice (some ⟨b,0,none⟩) 1 1,.slice none 0 0,.slice none 0 0]] u fun e w'=>e= .returned (.bool false)∧Below u.heap.size u w'):=fun u b hl hc=>by have h:=w_Below 1 lvB lvA _ _ u (lv_inB u) (lv_inA hl hc) f2 f1;rw [b2] at h;exact h
 have HAN:Hid (∀ u b,b<u.heap.size→u.cell? ⟨b,0,none⟩=some (.string ⟨#[97]⟩)→Calls Tryz.prog 8 #[.agg #[.bool false,.bool false,.bool false,.bool false,.slice none 0 0,.bool false,.slice (some ⟨b,0,none⟩) 1 1,.slice none 0 0,.slice none 0 0],.agg #[.bool false,.bool true,.bool false,.bool false,.slice none 0 0,.bool false,.slice none 0 0,.slice none 0 0,.slice none 0 0]] u fun e w'=>e= .returned (.bool true)∧Below u.heap.size u w'):=fun u b hl hc=>by have h:=w_Apart 1 lvA lvN _ _ u (lv_inA hl hc) (lv_inN u) f1 f3;rw [b3] at h;exact h
 have HAP:Hid (∀ u b,b<u.heap.size→u.cell? ⟨b,0,none⟩=some (.string ⟨#[97]⟩)→Calls Tryz.prog 8 #[.agg #[.bool false,.bool false,.bool false,.bool false,.slice none 0 0,.bool false,.slice (some ⟨b,0,none⟩) 1 1,.slice none 0 0,.slice none 0 0],.agg #[.bool false,.bool false,.bool false,.bool false,.slice none 0 0,.bool true,.slice none 0 0,.slice none 0 0,.slice none 0 0]] u fun e w'=>e= .returned (.bool false)∧Below u.heap.size u w'):=fun u b hl hc=>by have h:=w_Apart 1 lvA lvB _ _ u (lv_inA hl hc) (lv_inB u) f1 f2;rw [b4] at h;exact h
 clear f1 f2 f3 b1 b2 b3 b4;go_enter Tryz.func4,Tryz.ntmps4;go_upto_region 3 with fail
 try rw [HWq.out]
 clear HWq;have p0:=cell_of_row _ _ 0 _ _ _ HR1.out;have q0:=cell_of_row _ _ 0 _ _ _ HR2.out;have p1:=cell_of_row _ _ 1 _ _ _ HR1.out;have q1:=cell_of_row _ _ 1 _ _ _ HR2.out;have p2:=cell_of_row _ _ 2 _ _ _ HR1.out;have q2:=cell_of_row _ _ 2 _ _ _ HR2.out;have p3:=cell_of_row _ _ 3 _ _ _ HR1.out;have q3:=cell_of_row _ _ 3 _ _ _ HR2.out;have p4:=cell_of_row _ _ 4 _ _ _ HR1.out;have q4:=cell_of_row _ _ 4 _ _ _ HR2.out;have p5:=cell_of_row _ _ 5 _ _ _ HR1.out;have q5:=cell_of_row _ _ 5 _ _ _ HR2.out;have p6:=cell_of_row _ _ 6 _ _ _ HR1.out;have q6:=cell_of_row _ _ 6 _ _ _ HR2.out;have p7:=cell_of_row _ _ 7 _ _ _ HR1.out;have q7:=cell_of_row _ _ 7 _ _ _ HR2.out;have p8:=cell_of_row _ _ 8 _ _ _ HR1.out;have q8:=cell_of_row _ _ 8 _ _ _ HR2.out;have z0:=cell_of_row _ _ 0 _ _ _ HR0.out;go_wp2_with fail;refine (HAB.out _ w.heap.size (q00 HR0.out) z0).mono ?_;rintro e w1 ⟨rfl,hq⟩;have HB1:=hQz (HB0.out.trans (hq.mono HB0.out.size));have HR0:Hid (w1.heap[w.heap.size]? =_):=(hq.block _ (q00 HR0.out)).trans HR0.out;have HR1:Hid (w1.heap[w.heap.size+1]? =_):=(hq.block _ (q00 HR1.out)).trans HR1.out;have HR2:Hid (w1.heap[w.heap.size+1+1]? =_):=(hq.block _ (q00 HR2.out)).trans HR2.out;clear hq z0 p0 q0 p1 q1 p2 q2 p3 q3 p4 q4 p5 q5 p6 q6 p7 q7 p8 q8;have p0:=cell_of_row _ _ 0 _ _ _ HR1.out;have q0:=cell_of_row _ _ 0 _ _ _ HR2.out;have p1:=cell_of_row _ _ 1 _ _ _ HR1.out;have q1:=cell_of_row _ _ 1 _ _ _ HR2.out;have p2:=cell_of_row _ _ 2 _ _ _ HR1.out;have q2:=cell_of_row _ _ 2 _ _ _ HR2.out;have p3:=cell_of_row _ _ 3 _ _ _ HR1.out;have q3:=cell_of_row _ _ 3 _ _ _ HR2.out;have p4:=cell_of_row _ _ 4 _ _ _ HR1.out;have q4:=cell_of_row _ _ 4 _ _ _ HR2.out;have p5:=cell_of_row _ _ 5 _ _ _ HR1.out;have q5:=cell_of_row _ _ 5 _ _ _ HR2.out;have p6:=cell_of_row _ _ 6 _ _ _ HR1.out;have q6:=cell_of_row _ _ 6 _ _ _ HR2.out;have p7:=cell_of_row _ _ 7 _ _ _ HR1.out;have q7:=cell_of_row _ _ 7 _ _ _ HR2.out;have p8:=cell_of_row _ _ 8 _ _ _ HR1.out;have q8:=cell_of_row _ _ 8 _ _ _ HR2.out;have z0:=cell_of_row _ _ 0 _ _ _ HR0.out;go_wp2_with fail;refine (HBA.out _ w.heap.size (q00 HR0.out) z0).mono ?_;rintro e w2 ⟨rfl,hq⟩;have HB2:=hQz (HB1.out.trans (hq.mono HB1.out.size));have HR0:Hid (w2.heap[w.heap.size]? =_):=(hq.block _ (q00 HR0.out)).trans HR0.out;have HR1:Hid (w2.heap[w.heap.size+1]? =_):=(hq.block _ (q00 HR1.out)).trans HR1.out
 have HR2:Hid (w2.heap[w.heap.size+1+1]? =_):=(hq.block _ (q00 HR2.out)).trans HR2.out;clear hq z0 p0 q0 p1 q1 p2 q2 p3 q3 p4 q4 p5 q5 p6 q6 p7 q7 p8 q8;have p0:=cell_of_row _ _ 0 _ _ _ HR1.out;have q0:=cell_of_row _ _ 0 _ _ _ HR2.out;have p1:=cell_of_row _ _ 1 _ _ _ HR1.out;have q1:=cell_of_row _ _ 1 _ _ _ HR2.out;have p2:=cell_of_row _ _ 2 _ _ _ HR1.out;have q2:=cell_of_row _ _ 2 _ _ _ HR2.out;have p3:=cell_of_row _ _ 3 _ _ _ HR1.out;have q3:=cell_of_row _ _ 3 _ _ _ HR2.out;have p4:=cell_of_row _ _ 4 _ _ _ HR1.out;have q4:=cell_of_row _ _ 4 _ _ _ HR2.out;have p5:=cell_of_row _ _ 5 _ _ _ HR1.out;have q5:=cell_of_row _ _ 5 _ _ _ HR2.out;have p6:=cell_of_row _ _ 6 _ _ _ HR1.out;have q6:=cell_of_row _ _ 6 _ _ _ HR2.out;have p7:=cell_of_row _ _ 7 _ _ _ HR1.out;have q7:=cell_of_row _ _ 7 _ _ _ HR2.out;have p8:=cell_of_row _ _ 8 _ _ _ HR1.out;have q8:=cell_of_row _ _ 8 _ _ _ HR2.out;have z0:=cell_of_row _ _ 0 _ _ _ HR0.out;go_wp2_with fail;refine (HAN.out _ w.heap.size (q00 HR0.out) z0).mono ?_;rintro e w3 ⟨rfl,hq⟩;have HB3:=hQz (HB2.out.trans (hq.mono HB2.out.size));have HR0:Hid (w3.heap[w.heap.size]? =_):=(hq.block _ (q00 HR0.out)).trans HR0.out;have HR1:Hid (w3.heap[w.heap.size+1]? =_):=(hq.block _ (q00 HR1.out)).trans HR1.out;have HR2:Hid (w3.heap[w.heap.size+1+1]? =_):=(hq.block _ (q00 HR2.out)).trans HR2.out;clear hq z0 p0 q0 p1 q1 p2 q2 p3 q3 p4 q4 p5 q5 p6 q6 p7 q7 p8 q8;have p0:=cell_of_row _ _ 0 _ _ _ HR1.out;have q0:=cell_of_row _ _ 0 _ _ _ HR2.out;have p1:=cell_of_row _ _ 1 _ _ _ HR1.out;have q1:=cell_of_row _ _ 1 _ _ _ HR2.out;have p2:=cell_of_row _ _ 2 _ _ _ HR1.out;have q2:=cell_of_row _ _ 2 _ _ _ HR2.out;have p3:=cell_of_row _ _ 3 _ _ _ HR1.out;have q3:=cell_of_row _ _ 3 _ _ _ HR2.out;have p4:=cell_of_row _ _ 4 _ _ _ HR1.out;have q4:=cell_of_row _ _ 4 _ _ _ HR2.out;have p5:=cell_of_row _ _ 5 _ _ _ HR1.out;have q5:=cell_of_row _ _ 5 _ _ _ HR2.out;have p6:=cell_of_row _ _ 6 _ _ _ HR1.out;have q6:=cell_of_row _ _ 6 _ _ _ HR2.out;have p7:=cell_of_row _ _ 7 _ _ _ HR1.out;have q7:=cell_of_row _ _ 7 _ _ _ HR2.out;have p8:=cell_of_row _ _ 8 _ _ _ HR1.out;have q8:=cell_of_row _ _ 8 _ _ _ HR2.out;have z0:=cell_of_row _ _ 0 _ _ _ HR0.out;go_wp2_with fail;refine (HAP.out _ w.heap.size (q00 HR0.out) z0).mono ?_;rintro e w4 ⟨rfl,hq⟩;have HB4:=hQz (HB3.out.trans (hq.mono HB3.out.size))
 have HR0:Hid (w4.heap[w.heap.size]? =_):=(hq.block _ (q00 HR0.out)).trans HR0.out;have HR1:Hid (w4.heap[w.heap.size+1]? =_):=(hq.block _ (q00 HR1.out)).trans HR1.out;have HR2:Hid (w4.heap[w.heap.size+1+1]? =_):=(hq.block _ (q00 HR2.out)).trans HR2.out;clear hq z0 p0 q0 p1 q1 p2 q2 p3 q3 p4 q4 p5 q5 p6 q6 p7 q7 p8 q8;go_wp2_with fail;go_ret;exact ⟨by first|rfl|simp,HB4.out⟩
end Go.Proofs.YtnokkmiaeacogaaGreat
namespace Go.Proofs.YtnokkmiaeacogaaGreat
open Go.RowKit Go.Shelf Go.Sort
set_option maxRecDepth 100000
set_option maxHeartbeats 12800000
theorem fld_none {o:OB} (ok:OkO o) {s:ByteArray} (hs:s∉o.names):fldO o s=(o.rest,false):=
 (lk_fld _ _ _ _ _).trans (lk_none (fun z hz e4=>hs (by rw [← q0d ok];exact e4▸List.mem_map.2 ⟨z,hz,rfl⟩)))
theorem fld_mem {o:OB} (ok:OkO o) (s:ByteArray):(fldO o s).1=o.rest∨(fldO o s).1∈o.fields:=by
 by_cases hs:s∈o.names
 · rw [← q0d ok] at hs;obtain ⟨z,hz,rfl⟩:=List.mem_map.1 hs
   right
   have e:fldO o z.1=z.2:=(lk_fld _ _ _ _ _).trans (lk_mem (q0V ok) hz);rw [e];have hz':z∈o.names.zip (o.fields.zip o.must):=hz;have h2:=(List.of_mem_zip hz').2;exact (List.of_mem_zip h2).1
 · left;rw [fld_none ok hs]
theorem hasK_iff {l:List ByteArray} {s:ByteArray}:hasK l s=true↔s∈l:=by
 constructor
 · intro h;obtain ⟨k,hk,e⟩:=List.any_eq_true.1 h;exact (q0o _ _).1 e▸hk
 · intro h;exact List.any_eq_true.2 ⟨s,h,(q0o _ _).2 rfl⟩
theorem txL_iff {A B:TT}:txL A B=true↔(B.any=true∨(A.any=false∧∀ s∈A.texts,s∈B.texts)):=by
 unfold txL;rw [Bool.or_eq_true,Bool.and_eq_true,List.all_eq_true,Bool.not_eq_true'];simp only [hasK_iff]
theorem fld_fm {h:Nat} {o:OB} (hf:obOk (fmN h) o=true) (s:ByteArray):fmN h (fldO o s).1=true:=by
 obtain ⟨ok,r,g⟩:=q0U hf;rcases fld_mem ok s with e|e
 · rw [e];exact r
 · exact g _ e
theorem bare_iff {T:TT}:T.bare=true↔(T.nul=false∧T.fls=false∧T.tru=false∧T.any=false∧T.nums=[]∧T.texts=[]∧T.arrs=[]∧T.objs=[]):=by
 unfold TT.bare bareT
 cases T.nul <;> cases T.fls <;> cases T.tru <;> cases T.any <;> simp
end Go.Proofs.YtnokkmiaeacogaaGreat
