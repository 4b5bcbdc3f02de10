import Derived.Test.YtnokkmiaeacogaaGreatM22
import Derived.Test.YtnokkmiaeacogaaGreatM13
set_option linter.unusedVariables false
set_option linter.unusedSimpArgs false
namespace Go.Proofs.YtnokkmiaeacogaaGreat
open Go.RowKit Go.Shelf Go.Sort
attribute [local go_sem] Oper.semAt_some
set_option maxRecDepth 100000
set_option maxHeartbeats 12800000
def spOk (p:ByteArray × ByteArray):Bool:=bndB p.1&&(bndB p.2&&(p.1.size==0||(p.2.size==0||decide (numC p.1 p.2≤0))))
def spB:List (ByteArray × ByteArray)→Bool
 | []=>true
 | [p]=>spOk p
 | _=>false
theorem list_none {s:ByteArray} (h:s.size=0):s.toList=[]:=by
 rw [Lib.toList_data];exact List.eq_nil_of_length_eq_zero (by rw [Array.length_toList];exact h)
theorem list_some {s:ByteArray} (h:¬ s.size=0):¬ s.toList=[]:=fun h0=>h (by
 rw [Lib.toList_data] at h0;have h2:=congrArg List.length h0;rw [Array.length_toList] at h2;exact h2)
theorem w_rSpans (so:Option Addr) (N cap:Nat) (ps:List (ByteArray × ByteArray)) (w:World) (hI:SpIn w so ps) (hN:ps.length=N) (hc:N≤cap) (hN2:N≤140737488355328) (hs:∀ p∈ps,p.1.size≤140737488355328∧p.2.size≤140737488355328):
 Calls Tryz.prog 47 #[.slice so N cap] w fun e w'=>e= .returned (.bool (spB ps))∧Below w.heap.size w w':=by
 by_cases h1:1<N
 · have hf:spB ps=false:=by
    match ps,hN with
    | [],h=>simp at h;omega
    | [p],h=>simp at h;omega
    | _::_::_,_=>rfl
   rw [hf];have h1':(1:Int)<(N:Int):=by omega
   clear hI hN hs h1 hf;go_enter Tryz.func47,Tryz.ntmps47;go_wp2_with fail;go_ret;exact ⟨rfl,Below.refl _ _⟩
 · have h1':¬ (1:Int)<(N:Int):=by omega
   have HI:=hQz hI;have HN:=hQz hN;have HS:=hQz hs;clear hI hN hs;go_enter Tryz.func47,Tryz.ntmps47;go_wp2_with fail
   go_loopw [3] (fun i wr=>∃ k:Nat,k≤N∧i= .int .i64 (k:Int)∧Hid (Below w.heap.size w wr)∧Hid (k=N→spB ps=true)) (fun i _=>N-(intOf i).toNat)
   case atStart=>
    refine ⟨0,Nat.zero_le _,rfl,Below.refl _ _,fun h0=> ?_⟩;have:ps=[]:=List.eq_nil_of_length_eq_zero (by rw [HN.out];exact h0.symm);rw [this];rfl
   case round=>
    obtain ⟨k,hk,rfl,HB,HQ⟩:=hrel;by_cases hlt:k<N
    · have hl1:(k:Int)<(N:Int):=by omega
      have hl0:(0:Int)≤(k:Int):=by omega
      have hkl:k<ps.length:=by rw [HN.out];exact hlt
      obtain ⟨p,hp⟩:∃ p,ps=[p]:=by
       match ps,HN.out,hkl with
       | [],_,h=>cases h
       | [p],_,_=>exact ⟨p,rfl⟩
       | _::_::_,h,_=>simp at h;omega
      obtain ⟨b,off,hso,hbl,hrow⟩:=(HI.out.keep HB.out).row (by omega);subst hso;subst hp;have hk0:k=0:=by omega
      subst hk0;have hl1:(0:Int)<(N:Int):=by omega
      clear hl0;have hrow0:=hrow 0 hkl;obtain ⟨z1,z2⟩:=HS.out p (List.mem_singleton.2 rfl);obtain ⟨lo,hi⟩:=p;dsimp only [List.getElem_cons_zero] at hrow0 z1 z2;obtain ⟨c0,c1⟩:=hrow0;simp only [Nat.zero_mul,Nat.add_zero] at c0 c1;have HC0:=hQz (fun u=>w_rbound lo u z1);have HC1:=hQz (fun u=>w_rbound hi u z2);have HG:Hid (spB [(lo,hi)]=(bndB lo&&(bndB hi&&(lo.size==0||(hi.size==0||decide (numC lo hi≤0)))))):=rfl;clear HQ hrow hkl HS HI
      cases e0:bndB lo with
      | false=>
       have HG':Hid (spB [(lo,hi)]=false):=by show _=_;rw [HG.out,e0];rfl
       rw [e0] at HC0;clear e0;go_wp2_with fail;refine (HC0.out _).mono ?_;rintro e w1 ⟨rfl,rfl⟩;go_wp2_with fail;go_ret;exact ⟨by first|(rw [HG'.out];rfl)|rw [HG'.out],HB.out⟩
      | true=>
       cases e1:bndB hi with
       | false=>
        have HG':Hid (spB [(lo,hi)]=false):=by show _=_;rw [HG.out,e0,e1];rfl
        rw [e0] at HC0;rw [e1] at HC1;clear e0 e1;go_wp2_with fail;refine (HC0.out _).mono ?_;rintro e w1 ⟨rfl,rfl⟩;go_wp2_with fail;refine (HC1.out _).mono ?_;rintro e w2 ⟨rfl,rfl⟩;go_wp2_with fail;go_ret;exact ⟨by first|(rw [HG'.out];rfl)|rw [HG'.out],HB.out⟩
       | true=>
        have HE:=hQz (And.intro e0 e1);rw [e0] at HC0;rw [e1] at HC1;clear e0 e1;go_wp2_with fail;refine (HC0.out _).mono ?_;rintro e w1 ⟨rfl,rfl⟩;go_wp2_with fail;refine (HC1.out _).mono ?_;rintro e w2 ⟨rfl,rfl⟩;go_wp2_with fail;by_cases hz1:lo.size=0
        · have hn1:=list_none hz1;have HG':Hid (spB [(lo,hi)]=true):=by show _=_;rw [HG.out,HE.out.1,HE.out.2,hz1];rfl
          clear hz1;go_quiet (fail);have HB2:Hid (Below w.heap.size w (w2.drewN nq)):=below_drewN HB.out _;go_wp2_with fail;go_roundw
          case rel=>exact ⟨0+1,hlt,by go_num,HB2,fun _=>HG'.out⟩
          case measure=>simp [intOf];omega
        · have hn1:lo.toList.isEmpty=false:=by have:=list_some hz1;cases hh:lo.toList with|nil=>exact absurd hh this|cons=>rfl
          by_cases hz2:hi.size=0
          · have hn2:hi.toList.isEmpty=true:=by rw [list_none hz2];rfl
            have HG':Hid (spB [(lo,hi)]=true):=by show _=_;rw [HG.out,HE.out.1,HE.out.2,hz2,beq_false_of_ne hz1];rfl
            clear hz1 hz2;have A0:=fun d os=>cell_regrown c0 d os;have A1:=fun d os=>cell_regrown c1 d os;refine wp_region_quiet_below (by kernel_rfl) (by kernel_rfl) ?_
            repeat (go_big_quiet_step (fail))
            refine wpQuiet_nil ?_;intro w9 hw'
            have hb9:Below w2.heap.size w2 w9:=by
             obtain ⟨⟨dq,osq⟩,rfl⟩:=hw';exact below_regrown w2 dq osq
            have HB2:Hid (Below w.heap.size w w9):=HB.out.trans (hb9.mono HB.out.size);clear hw' hb9 A0 A1 c0 c1;go_wp2_with fail;go_roundw
            case rel=>exact ⟨0+1,hlt,by go_num,HB2,fun _=>HG'.out⟩
            case measure=>simp [intOf];omega
          · have hn2:hi.toList.isEmpty=false:=by have:=list_some hz2;cases hh:hi.toList with|nil=>exact absurd hh this|cons=>rfl
            have f1:Pl.formed lo.data.toList=true:=by have:=HE.out.1;simpa [bndB,hz1] using this
            have f2:Pl.formed hi.data.toList=true:=by have:=HE.out.2;simpa [bndB,hz2] using this
            have HC2:=hQz (fun (d:Nat) (os:Array Obj)=>w_Numbers lo hi (grow (redrawn w2 d) os) f1 f2 z1 z2);have HG2:Hid (spB [(lo,hi)]=decide (numC lo hi≤0)):=by show _=_;rw [HG.out,HE.out.1,HE.out.2,beq_false_of_ne hz1,beq_false_of_ne hz2];rfl
            generalize numC lo hi=c at HC2 HG2;clear hz1 hz2 f1 f2;have A0:=fun d os=>cell_regrown c0 d os;have A1:=fun d os=>cell_regrown c1 d os;by_cases hcz:c≤0
            · have HG':Hid (spB [(lo,hi)]=true):=by show _=_;rw [HG2.out];exact decide_eq_true hcz
              have hcz':¬ 0<c:=by omega
              clear hcz;refine wp_region_quiet_below (by kernel_rfl) (by kernel_rfl) ?_
              repeat (go_big_quiet_step (exact Calls.regrown_of (HC2.out _ _)))
              refine wpQuiet_nil ?_;intro w9 hw'
              have hb9:Below w2.heap.size w2 w9:=by
               obtain ⟨⟨dq,osq⟩,rfl⟩:=hw';exact below_regrown w2 dq osq
              have HB2:Hid (Below w.heap.size w w9):=HB.out.trans (hb9.mono HB.out.size);clear hw' hb9 A0 A1 c0 c1;go_wp2_with fail;go_roundw
              case rel=>exact ⟨0+1,hlt,by go_num,HB2,fun _=>HG'.out⟩
              case measure=>simp [intOf];omega
            · have HG':Hid (spB [(lo,hi)]=false):=by show _=_;rw [HG2.out];exact decide_eq_false hcz
              have hcz':0<c:=by omega
              clear hcz;refine wp_region_quiet_below (by kernel_rfl) (by kernel_rfl) ?_
              repeat (go_big_quiet_step (exact Calls.regrown_of (HC2.out _ _)))
              refine wpQuiet_nil ?_;intro w9 hw'
              have hb9:Below w2.heap.size w2 w9:=by
               obtain ⟨⟨dq,osq⟩,rfl⟩:=hw';exact below_regrown w2 dq osq
              have HB2:Hid (Below w.heap.size w w9):=HB.out.trans (hb9.mono HB.out.size);clear hw' hb9 A0 A1 c0 c1;go_wp2_with fail;go_ret;exact ⟨by first|(rw [HG'.out];rfl)|rw [HG'.out],HB2.out⟩
    · have hkN:k=N:=by omega
      have HQ':=hQz (HQ.out hkN);have hl1:¬ (k:Int)<(N:Int):=by omega
      clear HQ hkN;go_wp2_with fail;go_ret;exact ⟨by first|(rw [HQ'.out];rfl)|rw [HQ'.out],HB.out⟩
def arOk (f:TT→Bool) (a:AR):Bool:= !(decide (a.min<0)||decide (a.max< -1)||(decide (0≤a.max)&&decide (a.max<a.min)))&&(f a.item&&(a.item.never==decide (a.max=0)))
def arB (f:TT→Bool):List AR→Bool
 | []=>true
 | [a]=>arOk f a
 | _=>false
def fdOk (f:TT→Bool) (t:TT) (m:Bool):Bool:=f t&& !(m&&t.never)
def obOk (f:TT→Bool) (o:OB):Bool:=decide (o.names.length=o.fields.length)&&(decide (o.names.length=o.must.length)&&((rK o.names o.names.length&&oK o.names o.names.length)&&(f o.rest&&(o.fields.zip o.must).all fun p=>fdOk f p.1 p.2)))
def fmN:Nat→TT→Bool
 | 0,_=>false
 | h+1,T=> !(T.all&& !T.bare)&&((rK T.texts T.texts.length&&oK T.texts T.texts.length)&&(!(T.any&&decide (0<T.texts.length))&&(spB T.nums&&(arB (fmN h) T.arrs&&T.objs.all (obOk (fmN h))))))
def FtOk (h:Nat):Prop:=∀ (T:TT) (v:Value) (u:World),InT u h T v→Calls Tryz.prog 12 #[v] u fun e w'=>e= .returned (.bool (fmN h T))∧Below u.heap.size u w'
structure ArIn (W:World) (h:Nat) (ao:Option Addr) (rs:List AR):Prop where
 row:0<rs.length→∃ b off,ao=some ⟨b,off,none⟩∧b<W.heap.size∧∀ i,(hi:i<rs.length)→∃ c0 c1 c2 c3 c4 c5 c6 c7 c8:Value,
     C9 W b (off+i*11) c0 c1 c2 c3 c4 c5 c6 c7 c8∧W.cell? ⟨b,off+i*11+9,none⟩=some (.int .i64 rs[i].min)∧W.cell? ⟨b,off+i*11+10,none⟩=some (.int .i64 rs[i].max)∧
     InT W h rs[i].item (.agg #[c0,c1,c2,c3,c4,c5,c6,c7,c8])
theorem ArIn.keep {W W':World} {h:Nat} {ao:Option Addr} {rs:List AR} (x:ArIn W h ao rs) (hb:Below W.heap.size W W'):ArIn W' h ao rs:=by
 refine ⟨fun h0=> ?_⟩;obtain ⟨b,off,e2,hl,hc⟩:=x.row h0;refine ⟨b,off,e2,Nat.lt_of_lt_of_le hl hb.size,fun i hi=> ?_⟩;obtain ⟨c0,c1,c2,c3,c4,c5,c6,c7,c8,h1,h2,h3,h4⟩:=hc i hi;exact ⟨c0,c1,c2,c3,c4,c5,c6,c7,c8,h1.keep hb hl,(hb.cell (p:=⟨_,_,_⟩) hl).trans h2,(hb.cell (p:=⟨_,_,_⟩) hl).trans h3,h4.keep hb⟩
theorem w_rarrays (h:Nat) (ih:FtOk h) (ao:Option Addr) (N cap:Nat) (rs:List AR) (w:World) (hI:ArIn w h ao rs) (hN:rs.length=N) (hc:N≤cap) (hN2:N≤140737488355328):
 Calls Tryz.prog 48 #[.slice ao N cap] w fun e w'=>e= .returned (.bool (arB (fmN h) rs))∧Below w.heap.size w w':=by
 by_cases h1:1<N
 · have hf:arB (fmN h) rs=false:=by
    match rs,hN with
    | [],h=>simp at h;omega
    | [p],h=>simp at h;omega
    | _::_::_,_=>rfl
   rw [hf];have h1':(1:Int)<(N:Int):=by omega
   clear hI hN h1 hf;go_enter Tryz.func48,Tryz.ntmps48;go_wp2_with fail;go_ret;exact ⟨rfl,Below.refl _ _⟩
 · have h1':¬ (1:Int)<(N:Int):=by omega
   have HI:=hQz hI;have HN:=hQz hN;have HIh:=hQz ih;clear hI hN ih;go_enter Tryz.func48,Tryz.ntmps48;go_wp2_with fail
   go_loopw [3] (fun i wr=>∃ k:Nat,k≤N∧i= .int .i64 (k:Int)∧Hid (Below w.heap.size w wr)∧Hid (k=N→arB (fmN h) rs=true)) (fun i _=>N-(intOf i).toNat)
   case atStart=>
    refine ⟨0,Nat.zero_le _,rfl,Below.refl _ _,fun h0=> ?_⟩;have:rs=[]:=List.eq_nil_of_length_eq_zero (by rw [HN.out];exact h0.symm);rw [this];rfl
   case round=>
    obtain ⟨k,hk,rfl,HB,HQ⟩:=hrel;by_cases hlt:k<N
    · have hl1:(k:Int)<(N:Int):=by omega
      have hl0:(0:Int)≤(k:Int):=by omega
      have hkl:k<rs.length:=by rw [HN.out];exact hlt
      obtain ⟨p,hp⟩:∃ p,rs=[p]:=by
       match rs,HN.out,hkl with
       | [],_,h=>cases h
       | [p],_,_=>exact ⟨p,rfl⟩
       | _::_::_,h,_=>simp at h;omega
      obtain ⟨b,off,hso,hbl,hrow⟩:=(HI.out.keep HB.out).row (by omega);subst hso;subst hp;have hk0:k=0:=by omega
      subst hk0;have hl1:(0:Int)<(N:Int):=by omega
      clear hl0;have hrow0:=hrow 0 hkl;dsimp only [List.getElem_cons_zero] at hrow0;obtain ⟨c0,c1,c2,c3,c4,c5,c6,c7,c8,hc9,m0,m1,hct⟩:=hrow0;simp only [Nat.zero_mul,Nat.add_zero] at hc9 m0 m1;have HF:=hQz (fun (u:World) (hu:Below wr.heap.size wr u)=>HIh.out p.item _ u (hct.keep hu));have HV:=hQz (fun (u:World) (hu:Below wr.heap.size wr u)=>w_rNever h p.item _ u (hct.keep hu));obtain ⟨e0,e1,e2,e3,e4,e5,e6,e7,e8,esh⟩:=q02 hct;simp only [Value.agg.injEq,Array.mk.injEq,List.cons.injEq,and_true] at esh;obtain ⟨rfl,rfl,rfl,rfl,rfl,rfl,rfl,rfl,rfl⟩:=esh;obtain ⟨q0,q1,q2,q3,q4,q5,q6,q7,q8⟩:=hc9;have HG:Hid (arB (fmN h) [p]=(!(decide (p.min<0)||decide (p.max< -1)||(decide (0≤p.max)&&decide (p.max<p.min)))&&(fmN h p.item&&(p.item.never==decide (p.max=0))))):=rfl;generalize fmN h p.item=f at HF HG;generalize p.item.never=g at HV HG;generalize p.min=mn at *;generalize p.max=mx at *;clear HQ hrow hkl HI hct
      by_cases k1:mn<0
      · have k1d:=decide_eq_true k1;have HG':Hid (arB (fmN h) [p]=false):=by show _=_;rw [HG.out,k1d];rfl
        have M0:=fun d os=>cell_regrown m0 d os;have M1:=fun d os=>cell_regrown m1 d os;go_wp2_with fail;refine wp_region_quiet_below (by kernel_rfl) (by kernel_rfl) ?_
        repeat (go_big_quiet_step (fail))
        refine wpQuiet_nil ?_;intro u6 hw'
        have hu6:Below wr.heap.size wr u6:=by
         obtain ⟨⟨dq,osq⟩,rfl⟩:=hw';exact below_regrown wr dq osq
        clear hw' M0 M1;have HB6:=hQz (HB.out.trans (hu6.mono HB.out.size));clear hu6;go_wp2_with fail;go_ret;exact ⟨by first|(rw [HG'.out];rfl)|rw [HG'.out],HB6.out⟩
      · have k1d:=decide_eq_false k1;by_cases k2:mx< -1
        · have k2d:=decide_eq_true k2;have HG':Hid (arB (fmN h) [p]=false):=by show _=_;rw [HG.out,k1d,k2d];rfl
          have M0:=fun d os=>cell_regrown m0 d os;have M1:=fun d os=>cell_regrown m1 d os;go_wp2_with fail;refine wp_region_quiet_below (by kernel_rfl) (by kernel_rfl) ?_
          repeat (go_big_quiet_step (fail))
          refine wpQuiet_nil ?_;intro u6 hw'
          have hu6:Below wr.heap.size wr u6:=by
           obtain ⟨⟨dq,osq⟩,rfl⟩:=hw';exact below_regrown wr dq osq
          clear hw' M0 M1;have HB6:=hQz (HB.out.trans (hu6.mono HB.out.size));clear hu6;go_wp2_with fail;go_ret;exact ⟨by first|(rw [HG'.out];rfl)|rw [HG'.out],HB6.out⟩
        · have k2d:=decide_eq_false k2;by_cases k3:0≤mx
          · have k3d:=decide_eq_true k3;by_cases k4:mx<mn
            · have k4d:=decide_eq_true k4;have HG':Hid (arB (fmN h) [p]=false):=by show _=_;rw [HG.out,k1d,k2d,k3d,k4d];rfl
              have M0:=fun d os=>cell_regrown m0 d os;have M1:=fun d os=>cell_regrown m1 d os;go_wp2_with fail;refine wp_region_quiet_below (by kernel_rfl) (by kernel_rfl) ?_
              repeat (go_big_quiet_step (fail))
              refine wpQuiet_nil ?_;intro u6 hw'
              have hu6:Below wr.heap.size wr u6:=by
               obtain ⟨⟨dq,osq⟩,rfl⟩:=hw';exact below_regrown wr dq osq
              clear hw' M0 M1;have HB6:=hQz (HB.out.trans (hu6.mono HB.out.size));clear hu6;go_wp2_with fail;go_ret;exact ⟨by first|(rw [HG'.out];rfl)|rw [HG'.out],HB6.out⟩
            · have k4d:=decide_eq_false k4;have M0:=fun d os=>cell_regrown m0 d os;have M1:=fun d os=>cell_regrown m1 d os;go_wp2_with fail;refine wp_region_quiet_below (by kernel_rfl) (by kernel_rfl) ?_
              repeat (go_big_quiet_step (fail))
              refine wpQuiet_nil ?_;intro u6 hw'
              have hu6:Below wr.heap.size wr u6:=by
               obtain ⟨⟨dq,osq⟩,rfl⟩:=hw';exact below_regrown wr dq osq
              clear hw' M0 M1;have HB6:=hQz (HB.out.trans (hu6.mono HB.out.size));have q0u:=(hu6.cell (p:=⟨_,_,_⟩) hbl).trans q0;have q1u:=(hu6.cell (p:=⟨_,_,_⟩) hbl).trans q1;have q2u:=(hu6.cell (p:=⟨_,_,_⟩) hbl).trans q2;have q3u:=(hu6.cell (p:=⟨_,_,_⟩) hbl).trans q3;have q4u:=(hu6.cell (p:=⟨_,_,_⟩) hbl).trans q4;have q5u:=(hu6.cell (p:=⟨_,_,_⟩) hbl).trans q5;have q6u:=(hu6.cell (p:=⟨_,_,_⟩) hbl).trans q6;have q7u:=(hu6.cell (p:=⟨_,_,_⟩) hbl).trans q7;have q8u:=(hu6.cell (p:=⟨_,_,_⟩) hbl).trans q8;have m1u:=(hu6.cell (p:=⟨_,_,_⟩) hbl).trans m1;have HF6:=hQz (fun (d:Nat) (os:Array Obj)=>HF.out (grow (redrawn u6 d) os) (hu6.trans ((below_regrown u6 d os).mono hu6.size)));have HV6:=hQz (fun (d:Nat) (os:Array Obj)=>HV.out (grow (redrawn u6 d) os) (hu6.trans ((below_regrown u6 d os).mono hu6.size)));clear hu6 HF HV m0 m1 q0 q1 q2 q3 q4 q5 q6 q7 q8;go_wp2_with fail;have Q0:=fun d os=>cell_regrown q0u d os;have Q1:=fun d os=>cell_regrown q1u d os;have Q2:=fun d os=>cell_regrown q2u d os;have Q3:=fun d os=>cell_regrown q3u d os;have Q4:=fun d os=>cell_regrown q4u d os;have Q5:=fun d os=>cell_regrown q5u d os;have Q6:=fun d os=>cell_regrown q6u d os;have Q7:=fun d os=>cell_regrown q7u d os;have Q8:=fun d os=>cell_regrown q8u d os;have M1:=fun d os=>cell_regrown m1u d os
              cases f with
              | false=>
               have HG':Hid (arB (fmN h) [p]=false):=by show _=_;rw [HG.out,k1d,k2d,k3d,k4d];rfl
               refine wp_region_quiet_below (by kernel_rfl) (by kernel_rfl) ?_
               repeat (go_big_quiet_step (first|exact Calls.regrown_of (HF6.out _ _)|exact Calls.regrown_of (HV6.out _ _)))
               refine wpQuiet_nil ?_;intro u8 hw'
               have hu8:Below u6.heap.size u6 u8:=by
                obtain ⟨⟨dq,osq⟩,rfl⟩:=hw';exact below_regrown u6 dq osq
               clear hw' M1 Q0 Q1 Q2 Q3 Q4 Q5 Q6 Q7 Q8 m1u q0u q1u q2u q3u q4u q5u q6u q7u q8u;have HB8:=hQz (HB6.out.trans (hu8.mono HB6.out.size));clear hu8;go_wp2_with fail;go_ret;exact ⟨by first|(rw [HG'.out];rfl)|rw [HG'.out],HB8.out⟩
              | true=>
               cases g with
               | false=>
                by_cases k5:mx=0
                · have k5d:=decide_eq_true k5;have k5':(mx==0)=true:=by simp [k5]
                  have HG':Hid (arB (fmN h) [p]=false):=by show _=_;rw [HG.out,k1d,k2d,k3d,k4d,k5d];rfl
                  clear k5d;refine wp_region_quiet_below (by kernel_rfl) (by kernel_rfl) ?_
                  repeat (go_big_quiet_step (first|exact Calls.regrown_of (HF6.out _ _)|exact Calls.regrown_of (HV6.out _ _)))
                  refine wpQuiet_nil ?_;intro u8 hw'
                  have hu8:Below u6.heap.size u6 u8:=by
                   obtain ⟨⟨dq,osq⟩,rfl⟩:=hw';exact below_regrown u6 dq osq
                  clear hw' M1 Q0 Q1 Q2 Q3 Q4 Q5 Q6 Q7 Q8 m1u q0u q1u q2u q3u q4u q5u q6u q7u q8u;have HB8:=hQz (HB6.out.trans (hu8.mono HB6.out.size));clear hu8;go_wp2_with fail;go_ret;exact ⟨by first|(rw [HG'.out];rfl)|rw [HG'.out],HB8.out⟩
                · have k5d:=decide_eq_false k5;have k5':(mx==0)=false:=by simp [k5]
                  have HG':Hid (arB (fmN h) [p]=true):=by show _=_;rw [HG.out,k1d,k2d,k3d,k4d,k5d];rfl
                  clear k5d;refine wp_region_quiet_below (by kernel_rfl) (by kernel_rfl) ?_
                  repeat (go_big_quiet_step (first|exact Calls.regrown_of (HF6.out _ _)|exact Calls.regrown_of (HV6.out _ _)))
                  refine wpQuiet_nil ?_;intro u8 hw'
                  have hu8:Below u6.heap.size u6 u8:=by
                   obtain ⟨⟨dq,osq⟩,rfl⟩:=hw';exact below_regrown u6 dq osq
                  clear hw' M1 Q0 Q1 Q2 Q3 Q4 Q5 Q6 Q7 Q8 m1u q0u q1u q2u q3u q4u q5u q6u q7u q8u;have HB8:=hQz (HB6.out.trans (hu8.mono HB6.out.size));clear hu8;go_wp2_with fail;go_roundw
                  case rel=>exact ⟨0+1,hlt,by go_num,HB8,fun _=>HG'.out⟩
                  case measure=>simp [intOf];omega
               | true=>
                by_cases k5:mx=0
                · have k5d:=decide_eq_true k5;have k5':(mx==0)=true:=by simp [k5]
                  have HG':Hid (arB (fmN h) [p]=true):=by show _=_;rw [HG.out,k1d,k2d,k3d,k4d,k5d];rfl
                  clear k5d;refine wp_region_quiet_below (by kernel_rfl) (by kernel_rfl) ?_
                  repeat (go_big_quiet_step (first|exact Calls.regrown_of (HF6.out _ _)|exact Calls.regrown_of (HV6.out _ _)))
                  refine wpQuiet_nil ?_;intro u8 hw'
                  have hu8:Below u6.heap.size u6 u8:=by
                   obtain ⟨⟨dq,osq⟩,rfl⟩:=hw';exact below_regrown u6 dq osq
                  clear hw' M1 Q0 Q1 Q2 Q3 Q4 Q5 Q6 Q7 Q8 m1u q0u q1u q2u q3u q4u q5u q6u q7u q8u;have HB8:=hQz (HB6.out.trans (hu8.mono HB6.out.size));clear hu8;go_wp2_with fail;go_roundw
                  case rel=>exact ⟨0+1,hlt,by go_num,HB8,fun _=>HG'.out⟩
                  case measure=>simp [intOf];omega
                · have k5d:=decide_eq_false k5;have k5':(mx==0)=false:=by simp [k5]
                  have HG':Hid (arB (fmN h) [p]=false):=by show _=_;rw [HG.out,k1d,k2d,k3d,k4d,k5d];rfl
                  clear k5d;refine wp_region_quiet_below (by kernel_rfl) (by kernel_rfl) ?_
                  repeat (go_big_quiet_step (first|exact Calls.regrown_of (HF6.out _ _)|exact Calls.regrown_of (HV6.out _ _)))
                  refine wpQuiet_nil ?_;intro u8 hw'
                  have hu8:Below u6.heap.size u6 u8:=by
                   obtain ⟨⟨dq,osq⟩,rfl⟩:=hw';exact below_regrown u6 dq osq
                  clear hw' M1 Q0 Q1 Q2 Q3 Q4 Q5 Q6 Q7 Q8 m1u q0u q1u q2u q3u q4u q5u q6u q7u q8u;have HB8:=hQz (HB6.out.trans (hu8.mono HB6.out.size));clear hu8;go_wp2_with fail;go_ret;exact ⟨by first|(rw [HG'.out];rfl)|rw [HG'.out],HB8.out⟩
          · have k3d:=decide_eq_false k3;have M0:=fun d os=>cell_regrown m0 d os;have M1:=fun d os=>cell_regrown m1 d os;go_wp2_with fail;refine wp_region_quiet_below (by kernel_rfl) (by kernel_rfl) ?_
            repeat (go_big_quiet_step (fail))
            refine wpQuiet_nil ?_;intro u6 hw'
            have hu6:Below wr.heap.size wr u6:=by
             obtain ⟨⟨dq,osq⟩,rfl⟩:=hw';exact below_regrown wr dq osq
            clear hw' M0 M1;have HB6:=hQz (HB.out.trans (hu6.mono HB.out.size));have q0u:=(hu6.cell (p:=⟨_,_,_⟩) hbl).trans q0;have q1u:=(hu6.cell (p:=⟨_,_,_⟩) hbl).trans q1;have q2u:=(hu6.cell (p:=⟨_,_,_⟩) hbl).trans q2;have q3u:=(hu6.cell (p:=⟨_,_,_⟩) hbl).trans q3;have q4u:=(hu6.cell (p:=⟨_,_,_⟩) hbl).trans q4;have q5u:=(hu6.cell (p:=⟨_,_,_⟩) hbl).trans q5;have q6u:=(hu6.cell (p:=⟨_,_,_⟩) hbl).trans q6;have q7u:=(hu6.cell (p:=⟨_,_,_⟩) hbl).trans q7;have q8u:=(hu6.cell (p:=⟨_,_,_⟩) hbl).trans q8;have m1u:=(hu6.cell (p:=⟨_,_,_⟩) hbl).trans m1;have HF6:=hQz (fun (d:Nat) (os:Array Obj)=>HF.out (grow (redrawn u6 d) os) (hu6.trans ((below_regrown u6 d os).mono hu6.size)));have HV6:=hQz (fun (d:Nat) (os:Array Obj)=>HV.out (grow (redrawn u6 d) os) (hu6.trans ((below_regrown u6 d os).mono hu6.size)));clear hu6 HF HV m0 m1 q0 q1 q2 q3 q4 q5 q6 q7 q8;go_wp2_with fail;have Q0:=fun d os=>cell_regrown q0u d os;have Q1:=fun d os=>cell_regrown q1u d os;have Q2:=fun d os=>cell_regrown q2u d os;have Q3:=fun d os=>cell_regrown q3u d os;have Q4:=fun d os=>cell_regrown q4u d os;have Q5:=fun d os=>cell_regrown q5u d os;have Q6:=fun d os=>cell_regrown q6u d os;have Q7:=fun d os=>cell_regrown q7u d os;have Q8:=fun d os=>cell_regrown q8u d os;have M1:=fun d os=>cell_regrown m1u d os
            cases f with
            | false=>
             have HG':Hid (arB (fmN h) [p]=false):=by show _=_;rw [HG.out,k1d,k2d,k3d];rfl
             refine wp_region_quiet_below (by kernel_rfl) (by kernel_rfl) ?_
             repeat (go_big_quiet_step (first|exact Calls.regrown_of (HF6.out _ _)|exact Calls.regrown_of (HV6.out _ _)))
             refine wpQuiet_nil ?_;intro u8 hw'
             have hu8:Below u6.heap.size u6 u8:=by
              obtain ⟨⟨dq,osq⟩,rfl⟩:=hw';exact below_regrown u6 dq osq
             clear hw' M1 Q0 Q1 Q2 Q3 Q4 Q5 Q6 Q7 Q8 m1u q0u q1u q2u q3u q4u q5u q6u q7u q8u;have HB8:=hQz (HB6.out.trans (hu8.mono HB6.out.size));clear hu8;go_wp2_with fail;go_ret;exact ⟨by first|(rw [HG'.out];rfl)|rw [HG'.out],HB8.out⟩
            | true=>
             cases g with
             | false=>
              by_cases k5:mx=0
              · exact absurd k5 (by omega)
              · have k5d:=decide_eq_false k5;have k5':(mx==0)=false:=by simp [k5]
                have HG':Hid (arB (fmN h) [p]=true):=by show _=_;rw [HG.out,k1d,k2d,k3d,k5d];rfl
                clear k5d;refine wp_region_quiet_below (by kernel_rfl) (by kernel_rfl) ?_
                repeat (go_big_quiet_step (first|exact Calls.regrown_of (HF6.out _ _)|exact Calls.regrown_of (HV6.out _ _)))
                refine wpQuiet_nil ?_;intro u8 hw'
                have hu8:Below u6.heap.size u6 u8:=by
                 obtain ⟨⟨dq,osq⟩,rfl⟩:=hw';exact below_regrown u6 dq osq
                clear hw' M1 Q0 Q1 Q2 Q3 Q4 Q5 Q6 Q7 Q8 m1u q0u q1u q2u q3u q4u q5u q6u q7u q8u;have HB8:=hQz (HB6.out.trans (hu8.mono HB6.out.size));clear hu8;go_wp2_with fail;go_roundw
                case rel=>exact ⟨0+1,hlt,by go_num,HB8,fun _=>HG'.out⟩
                case measure=>simp [intOf];omega
             | true=>
              by_cases k5:mx=0
              · exact absurd k5 (by omega)
              · have k5d:=decide_eq_false k5;have k5':(mx==0)=false:=by simp [k5]
                have HG':Hid (arB (fmN h) [p]=false):=by show _=_;rw [HG.out,k1d,k2d,k3d,k5d];rfl
                clear k5d;refine wp_region_quiet_below (by kernel_rfl) (by kernel_rfl) ?_
                repeat (go_big_quiet_step (first|exact Calls.regrown_of (HF6.out _ _)|exact Calls.regrown_of (HV6.out _ _)))
                refine wpQuiet_nil ?_;intro u8 hw'
                have hu8:Below u6.heap.size u6 u8:=by
                 obtain ⟨⟨dq,osq⟩,rfl⟩:=hw';exact below_regrown u6 dq osq
                clear hw' M1 Q0 Q1 Q2 Q3 Q4 Q5 Q6 Q7 Q8 m1u q0u q1u q2u q3u q4u q5u q6u q7u q8u;have HB8:=hQz (HB6.out.trans (hu8.mono HB6.out.size));clear hu8;go_wp2_with fail;go_ret;exact ⟨by first|(rw [HG'.out];rfl)|rw [HG'.out],HB8.out⟩
    · have hkN:k=N:=by omega
      have HQ':=hQz (HQ.out hkN);have hl1:¬ (k:Int)<(N:Int):=by omega
      clear HQ hkN;go_wp2_with fail;go_ret;exact ⟨by first|(rw [HQ'.out];rfl)|rw [HQ'.out],HB.out⟩
structure OBx (w u:World) (a0 a1 a2 a3 a4 a5 a6 a7 a8 a9 a10 a11:Value):Prop where
 below:Below w.heap.size w u
 c0:u.cell? ⟨w.heap.size,0,none⟩=some a0
 c1:u.cell? ⟨w.heap.size,1,none⟩=some a1
 c2:u.cell? ⟨w.heap.size,2,none⟩=some a2
 c3:u.cell? ⟨w.heap.size,3,none⟩=some a3
 c4:u.cell? ⟨w.heap.size,4,none⟩=some a4
 c5:u.cell? ⟨w.heap.size,5,none⟩=some a5
 c6:u.cell? ⟨w.heap.size,6,none⟩=some a6
 c7:u.cell? ⟨w.heap.size,7,none⟩=some a7
 c8:u.cell? ⟨w.heap.size,8,none⟩=some a8
 c9:u.cell? ⟨w.heap.size,9,none⟩=some a9
 c10:u.cell? ⟨w.heap.size,10,none⟩=some a10
 c11:u.cell? ⟨w.heap.size,11,none⟩=some a11
 lt:w.heap.size<u.heap.size
theorem OBx.keep {w u u':World} {a0 a1 a2 a3 a4 a5 a6 a7 a8 a9 a10 a11:Value} (x:OBx w u a0 a1 a2 a3 a4 a5 a6 a7 a8 a9 a10 a11) (hb:Below u.heap.size u u'):OBx w u' a0 a1 a2 a3 a4 a5 a6 a7 a8 a9 a10 a11:=
 ⟨x.below.trans (hb.mono x.below.size),(hb.cell (p:=⟨_,_,_⟩) x.lt).trans x.c0,(hb.cell (p:=⟨_,_,_⟩) x.lt).trans x.c1,(hb.cell (p:=⟨_,_,_⟩) x.lt).trans x.c2,(hb.cell (p:=⟨_,_,_⟩) x.lt).trans x.c3,(hb.cell (p:=⟨_,_,_⟩) x.lt).trans x.c4,(hb.cell (p:=⟨_,_,_⟩) x.lt).trans x.c5,(hb.cell (p:=⟨_,_,_⟩) x.lt).trans x.c6,(hb.cell (p:=⟨_,_,_⟩) x.lt).trans x.c7,(hb.cell (p:=⟨_,_,_⟩) x.lt).trans x.c8,(hb.cell (p:=⟨_,_,_⟩) x.lt).trans x.c9,(hb.cell (p:=⟨_,_,_⟩) x.lt).trans x.c10,(hb.cell (p:=⟨_,_,_⟩) x.lt).trans x.c11,Nat.lt_of_lt_of_le x.lt hb.size⟩
theorem obx_new (w:World) (a0 a1 a2 a3 a4 a5 a6 a7 a8 a9 a10 a11:Value):OBx w (w.alloc (.cells #[a0,a1,a2,a3,a4,a5,a6,a7,a8,a9,a10,a11] 95)) a0 a1 a2 a3 a4 a5 a6 a7 a8 a9 a10 a11:=
 ⟨(Below.refl _ _).alloc (Nat.le_refl _) _,by simp [go_sem],by simp [go_sem],by simp [go_sem],by simp [go_sem],by simp [go_sem],by simp [go_sem],by simp [go_sem],by simp [go_sem],by simp [go_sem],by simp [go_sem],by simp [go_sem],by simp [go_sem],by simp⟩
structure InO (W:World) (h:Nat) (o:OB) (ko:Option Addr) (kc:Nat) (fo:Option Addr) (fc:Nat) (mo:Option Addr) (mc:Nat) (c0 c1 c2 c3 c4 c5 c6 c7 c8:Value):Prop where
 caps:o.names.length≤kc∧o.fields.length≤fc∧o.must.length≤mc
 lens:o.names.length≤140737488355328∧o.fields.length≤140737488355328∧o.must.length≤140737488355328∧∀ k∈o.names,k.size≤140737488355328
 nm:KIn W ko o.names
 ms:BoIn W mo o.must
 fd:0<o.fields.length→∃ b2 off2,fo=some ⟨b2,off2,none⟩∧b2<W.heap.size∧∀ j,(hj:j<o.fields.length)→∃ d0 d1 d2 d3 d4 d5 d6 d7 d8:Value,
  C9 W b2 (off2+j*9) d0 d1 d2 d3 d4 d5 d6 d7 d8∧InT W h o.fields[j] (.agg #[d0,d1,d2,d3,d4,d5,d6,d7,d8])
 rest:InT W h o.rest (.agg #[c0,c1,c2,c3,c4,c5,c6,c7,c8])
theorem InO.keep {W W':World} {h:Nat} {o:OB} {ko:Option Addr} {kc:Nat} {fo:Option Addr} {fc:Nat} {mo:Option Addr} {mc:Nat} {c0 c1 c2 c3 c4 c5 c6 c7 c8:Value} (x:InO W h o ko kc fo fc mo mc c0 c1 c2 c3 c4 c5 c6 c7 c8) (hb:Below W.heap.size W W'):InO W' h o ko kc fo fc mo mc c0 c1 c2 c3 c4 c5 c6 c7 c8:=by
 refine ⟨x.caps,x.lens,x.nm.keep hb,x.ms.keep hb,fun hf=> ?_,x.rest.keep hb⟩;obtain ⟨b2,off2,e3,hl2,hd⟩:=x.fd hf;refine ⟨b2,off2,e3,Nat.lt_of_lt_of_le hl2 hb.size,fun j hj=> ?_⟩;obtain ⟨d0,d1,d2,d3,d4,d5,d6,d7,d8,k1,k2⟩:=hd j hj;exact ⟨d0,d1,d2,d3,d4,d5,d6,d7,d8,k1.keep hb hl2,k2.keep hb⟩
theorem q0x {α:Type} {l:List α} {f: α→Bool} {k:Nat} (hk:k<l.length):(l.take (k+1)).all f=((l.take k).all f&&f l[k]):=by
 rw [List.take_add_one,List.getElem?_eq_getElem hk,List.all_append];simp only [Option.toList_some,List.all_cons,List.all_nil,Bool.and_true]
theorem q0A {α:Type} {l:List α} {f: α→Bool} {k:Nat} (hk:k<l.length) (h:f l[k]=false):l.all f=false:=by
 rw [← Bool.not_eq_true];intro h2;have:=List.all_eq_true.1 h2 _ (List.getElem_mem hk);rw [h] at this;cases this
theorem w_robject (h:Nat) (ih:FtOk h) (o:OB) (ko:Option Addr) (kc:Nat) (fo:Option Addr) (fc:Nat) (mo:Option Addr) (mc:Nat) (c0 c1 c2 c3 c4 c5 c6 c7 c8:Value) (w:World) (hI:InO w h o ko kc fo fc mo mc c0 c1 c2 c3 c4 c5 c6 c7 c8):
 Calls Tryz.prog 99 #[.agg #[.slice ko o.names.length kc,.slice fo o.fields.length fc,.slice mo o.must.length mc,c0,c1,c2,c3,c4,c5,c6,c7,c8]] w fun e w'=>e= .returned (.bool (obOk (fmN h) o))∧Below w.heap.size w w':=by
 obtain ⟨e0,e1,e2,e3,⟨e4,e4n,e4c⟩,e5,⟨e6,e6n,e6c⟩,⟨e7,e7n,e7c⟩,⟨e8,e8n,e8c⟩,esh⟩:=q02 hI.rest;simp only [Value.agg.injEq,Array.mk.injEq,List.cons.injEq,and_true] at esh;obtain ⟨rfl,rfl,rfl,rfl,rfl,rfl,rfl,rfl,rfl⟩:=esh;have HI:=hQz hI;have HIh:=hQz ih;obtain ⟨hk1,hk2,hk3⟩:=hI.caps;obtain ⟨hs1,hs2,hs3,hs4⟩:=hI.lens;have HS4:=hQz hs4;have HG:Hid (obOk (fmN h) o=(decide (o.names.length=o.fields.length)&&(decide (o.names.length=o.must.length)&&((rK o.names o.names.length&&oK o.names o.names.length)&&(fmN h o.rest&&(o.fields.zip o.must).all fun p=>fdOk (fmN h) p.1 p.2))))):=rfl;have HRi:=hQz (fun (u:World) (hu:Below w.heap.size w u)=>w_Rise ko o.names.length kc o.names u (hI.nm.keep hu) rfl hk1 hs1 hs4);have HRe:=hQz (fun (u:World) (hu:Below w.heap.size w u)=>ih o.rest _ u (hI.rest.keep hu));obtain ⟨K,hK⟩:∃ K,o.names.length=K:=⟨_,rfl⟩;obtain ⟨F,hF⟩:∃ F,o.fields.length=F:=⟨_,rfl⟩;obtain ⟨M,hM⟩:∃ M,o.must.length=M:=⟨_,rfl⟩;have HF:=hQz hF;have HM:=hQz hM;rw [hK] at HG HRi hk1 hs1 ⊢;rw [hF] at HG hk2 hs2 ⊢;rw [hM] at HG hk3 hs3 ⊢;obtain ⟨R,hR⟩:∃ R,obOk (fmN h) o=R:=⟨_,rfl⟩;rw [hR] at HG ⊢;obtain ⟨ri,hri⟩:∃ r,(rK o.names K&&oK o.names K)=r:=⟨_,rfl⟩;rw [hri] at HG HRi;obtain ⟨re,hre⟩:∃ r,fmN h o.rest=r:=⟨_,rfl⟩;rw [hre] at HG HRe;have HX:=hQz (obx_new w (.slice ko K kc) (.slice fo F fc) (.slice mo M mc) (.bool e0) (.bool e1) (.bool e2) (.bool e3) (.slice e4 e4n e4c) (.bool e5) (.slice e6 e6n e6c) (.slice e7 e7n e7c) (.slice e8 e8n e8c));obtain ⟨W0,hW0⟩:∃ W0,W0=w.alloc (.cells #[.slice ko K kc,.slice fo F fc,.slice mo M mc,.bool e0,.bool e1,.bool e2,.bool e3,.slice e4 e4n e4c,.bool e5,.slice e6 e6n e6c,.slice e7 e7n e7c,.slice e8 e8n e8c] 95):=⟨_,rfl⟩;rw [← hW0] at HX;have hW0':=hW0.symm;clear hI ih hs4 hK hF hM hR hri hre hW0;obtain ⟨_,x0,x1,x2,x3,x4,x5,x6,x7,x8,x9,x10,x11,_⟩:=HX.out;by_cases l1:K=F
 · subst l1;by_cases l2:K=M
   · subst l2
     cases ri with
     | false=>
      have HG':Hid (R=false):=by show _=_;rw [HG.out,Bool.false_and,Bool.and_false,Bool.and_false];try rfl
      go_enter Tryz.func99,Tryz.ntmps99;go_wp2_with fail;refine (HRi.out _ HX.out.below).mono ?_;rintro e v1 ⟨rfl,hq⟩;have HX1:=hQz (HX.out.keep hq);clear hq x0 x1 x2 x3 x4 x5 x6 x7 x8 x9 x10 x11 hW0';obtain ⟨_,x0,x1,x2,x3,x4,x5,x6,x7,x8,x9,x10,x11,_⟩:=HX1.out;go_wp2_with fail;go_ret;exact ⟨by first|(rw [HG'.out];rfl)|rw [HG'.out],HX1.out.below⟩
     | true=>
      cases re with
      | false=>
       have HG':Hid (R=false):=by show _=_;rw [HG.out,Bool.false_and,Bool.and_false,Bool.and_false,Bool.and_false];try rfl
       go_enter Tryz.func99,Tryz.ntmps99;go_wp2_with fail;refine (HRi.out _ HX.out.below).mono ?_;rintro e v1 ⟨rfl,hq⟩;have HX1:=hQz (HX.out.keep hq);clear hq x0 x1 x2 x3 x4 x5 x6 x7 x8 x9 x10 x11 hW0';obtain ⟨_,x0,x1,x2,x3,x4,x5,x6,x7,x8,x9,x10,x11,_⟩:=HX1.out;go_wp2_with fail;refine (HRe.out _ HX1.out.below).mono ?_;rintro e v2 ⟨rfl,hq⟩;have HX2:=hQz (HX1.out.keep hq);clear hq x0 x1 x2 x3 x4 x5 x6 x7 x8 x9 x10 x11;obtain ⟨_,x0,x1,x2,x3,x4,x5,x6,x7,x8,x9,x10,x11,_⟩:=HX2.out;go_wp2_with fail;go_ret;exact ⟨by first|(rw [HG'.out];rfl)|rw [HG'.out],HX2.out.below⟩
      | true=>
       obtain ⟨zs,hzs⟩:∃ zs,o.fields.zip o.must=zs:=⟨_,rfl⟩;have HZL:Hid (zs.length=K):=by show _=_;rw [← hzs,List.length_zip,HF.out,HM.out];omega
       have HZ:Hid (∀ j,(hj:j<zs.length)→∃ (h1:j<o.fields.length) (h2:j<o.must.length),zs[j]=(o.fields[j],o.must[j])):=by
        intro j hj;subst hzs;have:=List.length_zip (l₁:=o.fields) (l₂:=o.must);exact ⟨by omega,by omega,by rw [List.getElem_zip]⟩
       have HG':Hid (R=zs.all fun p=>fdOk (fmN h) p.1 p.2):=by show _=_;rw [HG.out,hzs];simp
       clear hzs HG;go_enter Tryz.func99,Tryz.ntmps99;go_wp2_with fail;refine (HRi.out _ HX.out.below).mono ?_;rintro e v1 ⟨rfl,hq⟩;have HX1:=hQz (HX.out.keep hq);clear hq x0 x1 x2 x3 x4 x5 x6 x7 x8 x9 x10 x11 hW0';obtain ⟨_,x0,x1,x2,x3,x4,x5,x6,x7,x8,x9,x10,x11,_⟩:=HX1.out;go_wp2_with fail;refine (HRe.out _ HX1.out.below).mono ?_;rintro e v2 ⟨rfl,hq⟩;have HX2:=hQz (HX1.out.keep hq);clear hq x0 x1 x2 x3 x4 x5 x6 x7 x8 x9 x10 x11;obtain ⟨_,x0,x1,x2,x3,x4,x5,x6,x7,x8,x9,x10,x11,_⟩:=HX2.out;go_wp2_with fail;clear x0 x1 x2 x3 x4 x5 x6 x7 x8 x9 x10 x11
       go_loopw [3] (fun i wr=>∃ k:Nat,k≤K∧i= .int .i64 (k:Int)∧Hid (OBx w wr (.slice ko K kc) (.slice fo K fc) (.slice mo K mc) (.bool e0) (.bool e1) (.bool e2) (.bool e3) (.slice e4 e4n e4c) (.bool e5) (.slice e6 e6n e6c) (.slice e7 e7n e7c) (.slice e8 e8n e8c))∧Hid ((zs.take k).all (fun p=>fdOk (fmN h) p.1 p.2)=true)) (fun i _=>K-(intOf i).toNat)
       case atStart=>exact ⟨0,Nat.zero_le _,rfl,HX2,rfl⟩
       case round=>
        clear HX HX1 HX2;obtain ⟨k,hk,rfl,HB,HQ⟩:=hrel;obtain ⟨_,x0,x1,x2,x3,x4,x5,x6,x7,x8,x9,x10,x11,_⟩:=HB.out;by_cases hlt:k<K
        · have hl1:(k:Int)<(K:Int):=by omega
          have hl0:(0:Int)≤(k:Int):=by omega
          have hkl:k<zs.length:=by rw [HZL.out];exact hlt
          obtain ⟨z1,z2,hz⟩:=HZ.out k hkl;have hIk:=HI.out.keep HB.out.below;obtain ⟨fb,foff,hfo,hfl,hfd⟩:=hIk.fd (by omega);subst hfo;obtain ⟨d0,d1,d2,d3,d4,d5,d6,d7,d8,hc9,hct⟩:=hfd k z1;obtain ⟨mb,moff,hmo,hml,hmd⟩:=hIk.ms.row (by omega);subst hmo;have y0:=hmd k z2;have HC:=hQz (fun (u:World) (hu:Below wr.heap.size wr u)=>HIh.out o.fields[k] _ u (hct.keep hu));have HV:=hQz (fun (u:World) (hu:Below wr.heap.size wr u)=>w_rNever h o.fields[k] _ u (hct.keep hu))
          have HU:Hid ((zs.take (k+1)).all (fun p=>fdOk (fmN h) p.1 p.2)=(fmN h o.fields[k]&& !(o.must[k]&&o.fields[k].never))):=by
           show _=_;rw [q0x hkl,HQ.out,hz];rfl
          have HNo:Hid ((fmN h o.fields[k]&& !(o.must[k]&&o.fields[k].never))=false→R=false):=fun hh=>by
           rw [HG'.out];exact q0A hkl (by rw [hz];exact hh)
          obtain ⟨g0,g1,g2,g3,⟨g4,g4n,g4c⟩,g5,⟨g6,g6n,g6c⟩,⟨g7,g7n,g7c⟩,⟨g8,g8n,g8c⟩,esh⟩:=q02 hct;simp only [Value.agg.injEq,Array.mk.injEq,List.cons.injEq,and_true] at esh;obtain ⟨rfl,rfl,rfl,rfl,rfl,rfl,rfl,rfl,rfl⟩:=esh;obtain ⟨q0,q1,q2,q3,q4,q5,q6,q7,q8⟩:=hc9;generalize fmN h o.fields[k]=ff at HC HU HNo;generalize o.fields[k].never=fv at HV HU HNo;generalize o.must[k]=fm at y0 HU HNo;clear hIk hfd hct hmd z1 z2 hz hkl HQ
          cases ff with
          | false=>
           have HF':Hid (R=false):=HNo.out (by simp);go_wp2_with fail;refine (HC.out _ (Below.refl _ _)).mono ?_;rintro e v3 ⟨rfl,hq⟩;have HX3:=hQz (HB.out.keep hq);clear hq x0 x1 x2 x3 x4 x5 x6 x7 x8 x9 x10 x11 y0 q0 q1 q2 q3 q4 q5 q6 q7 q8;obtain ⟨_,x0,x1,x2,x3,x4,x5,x6,x7,x8,x9,x10,x11,_⟩:=HX3.out;go_wp2_with fail;go_ret;exact ⟨by first|(rw [HF'.out];rfl)|rw [HF'.out],HX3.out.below⟩
          | true=>
           cases fm with
           | false=>
            have HU':Hid ((zs.take (k+1)).all (fun p=>fdOk (fmN h) p.1 p.2)=true):=by show _=_;rw [HU.out];rfl
            go_wp2_with fail;refine (HC.out _ (Below.refl _ _)).mono ?_;rintro e v3 ⟨rfl,hq⟩;have HX3:=hQz (HB.out.keep hq);have y0n:=(hq.cell (p:=⟨_,_,_⟩) hml).trans y0;have q0n:=(hq.cell (p:=⟨_,_,_⟩) hfl).trans q0;have q1n:=(hq.cell (p:=⟨_,_,_⟩) hfl).trans q1;have q2n:=(hq.cell (p:=⟨_,_,_⟩) hfl).trans q2;have q3n:=(hq.cell (p:=⟨_,_,_⟩) hfl).trans q3;have q4n:=(hq.cell (p:=⟨_,_,_⟩) hfl).trans q4;have q5n:=(hq.cell (p:=⟨_,_,_⟩) hfl).trans q5;have q6n:=(hq.cell (p:=⟨_,_,_⟩) hfl).trans q6;have q7n:=(hq.cell (p:=⟨_,_,_⟩) hfl).trans q7;have q8n:=(hq.cell (p:=⟨_,_,_⟩) hfl).trans q8;have HV2:=hQz (fun (u:World) (hu:Below v3.heap.size v3 u)=>HV.out u (hq.trans (hu.mono hq.size)));have hb3:=Below.refl v3.heap.size v3;clear hq x0 x1 x2 x3 x4 x5 x6 x7 x8 x9 x10 x11 y0 q0 q1 q2 q3 q4 q5 q6 q7 q8;obtain ⟨_,x0,x1,x2,x3,x4,x5,x6,x7,x8,x9,x10,x11,_⟩:=HX3.out;go_wp2_with fail;go_roundw
            case rel=>exact ⟨k+1,hlt,by go_num,HX3,HU'⟩
            case measure=>simp [intOf];omega
           | true=>
            cases fv with
            | false=>
             have HU':Hid ((zs.take (k+1)).all (fun p=>fdOk (fmN h) p.1 p.2)=true):=by show _=_;rw [HU.out];rfl
             go_wp2_with fail;refine (HC.out _ (Below.refl _ _)).mono ?_;rintro e v3 ⟨rfl,hq⟩;have HX3:=hQz (HB.out.keep hq);have y0n:=(hq.cell (p:=⟨_,_,_⟩) hml).trans y0;have q0n:=(hq.cell (p:=⟨_,_,_⟩) hfl).trans q0;have q1n:=(hq.cell (p:=⟨_,_,_⟩) hfl).trans q1;have q2n:=(hq.cell (p:=⟨_,_,_⟩) hfl).trans q2;have q3n:=(hq.cell (p:=⟨_,_,_⟩) hfl).trans q3;have q4n:=(hq.cell (p:=⟨_,_,_⟩) hfl).trans q4;have q5n:=(hq.cell (p:=⟨_,_,_⟩) hfl).trans q5;have q6n:=(hq.cell (p:=⟨_,_,_⟩) hfl).trans q6;have q7n:=(hq.cell (p:=⟨_,_,_⟩) hfl).trans q7;have q8n:=(hq.cell (p:=⟨_,_,_⟩) hfl).trans q8;have HV2:=hQz (fun (u:World) (hu:Below v3.heap.size v3 u)=>HV.out u (hq.trans (hu.mono hq.size)));have hb3:=Below.refl v3.heap.size v3;clear hq x0 x1 x2 x3 x4 x5 x6 x7 x8 x9 x10 x11 y0 q0 q1 q2 q3 q4 q5 q6 q7 q8;obtain ⟨_,x0,x1,x2,x3,x4,x5,x6,x7,x8,x9,x10,x11,_⟩:=HX3.out;go_wp2_with fail;refine (HV2.out _ (Below.refl _ _)).mono ?_;rintro e v4 ⟨rfl,hq⟩;have HX4:=hQz (HX3.out.keep hq);clear hq x0 x1 x2 x3 x4 x5 x6 x7 x8 x9 x10 x11 y0n q0n q1n q2n q3n q4n q5n q6n q7n q8n;obtain ⟨_,x0,x1,x2,x3,x4,x5,x6,x7,x8,x9,x10,x11,_⟩:=HX4.out;go_wp2_with fail;go_roundw
             case rel=>exact ⟨k+1,hlt,by go_num,HX4,HU'⟩
             case measure=>simp [intOf];omega
            | true=>
             have HF':Hid (R=false):=HNo.out (by simp);go_wp2_with fail;refine (HC.out _ (Below.refl _ _)).mono ?_;rintro e v3 ⟨rfl,hq⟩;have HX3:=hQz (HB.out.keep hq);have y0n:=(hq.cell (p:=⟨_,_,_⟩) hml).trans y0;have q0n:=(hq.cell (p:=⟨_,_,_⟩) hfl).trans q0;have q1n:=(hq.cell (p:=⟨_,_,_⟩) hfl).trans q1;have q2n:=(hq.cell (p:=⟨_,_,_⟩) hfl).trans q2;have q3n:=(hq.cell (p:=⟨_,_,_⟩) hfl).trans q3;have q4n:=(hq.cell (p:=⟨_,_,_⟩) hfl).trans q4;have q5n:=(hq.cell (p:=⟨_,_,_⟩) hfl).trans q5;have q6n:=(hq.cell (p:=⟨_,_,_⟩) hfl).trans q6;have q7n:=(hq.cell (p:=⟨_,_,_⟩) hfl).trans q7;have q8n:=(hq.cell (p:=⟨_,_,_⟩) hfl).trans q8;have HV2:=hQz (fun (u:World) (hu:Below v3.heap.size v3 u)=>HV.out u (hq.trans (hu.mono hq.size)));have hb3:=Below.refl v3.heap.size v3;clear hq x0 x1 x2 x3 x4 x5 x6 x7 x8 x9 x10 x11 y0 q0 q1 q2 q3 q4 q5 q6 q7 q8;obtain ⟨_,x0,x1,x2,x3,x4,x5,x6,x7,x8,x9,x10,x11,_⟩:=HX3.out;go_wp2_with fail;refine (HV2.out _ (Below.refl _ _)).mono ?_;rintro e v4 ⟨rfl,hq⟩;have HX4:=hQz (HX3.out.keep hq);clear hq x0 x1 x2 x3 x4 x5 x6 x7 x8 x9 x10 x11 y0n q0n q1n q2n q3n q4n q5n q6n q7n q8n;obtain ⟨_,x0,x1,x2,x3,x4,x5,x6,x7,x8,x9,x10,x11,_⟩:=HX4.out;go_wp2_with fail;go_ret;exact ⟨by first|(rw [HF'.out];rfl)|rw [HF'.out],HX4.out.below⟩
        · have hl1:¬ (k:Int)<(K:Int):=by omega
          have HF':Hid (R=true):=by show _=_;rw [HG'.out,← HQ.out,List.take_of_length_le (by rw [HZL.out];omega)]
          go_wp2_with fail;go_ret;exact ⟨by first|(rw [HF'.out];rfl)|rw [HF'.out],HB.out.below⟩
   · have l2i:¬ (K:Int)=(M:Int):=by omega
     have HG':Hid (R=false):=by show _=_;rw [HG.out,decide_eq_false l2,Bool.false_and,Bool.and_false];try rfl
     go_enter Tryz.func99,Tryz.ntmps99;go_wp2_with fail;go_ret;exact ⟨by first|(rw [HG'.out];rfl)|rw [HG'.out],HX.out.below⟩
 · have l1i:¬ (K:Int)=(F:Int):=by omega
   have HG':Hid (R=false):=by show _=_;rw [HG.out,decide_eq_false l1,Bool.false_and];try rfl
   go_enter Tryz.func99,Tryz.ntmps99;go_wp2_with fail;go_ret;exact ⟨by first|(rw [HG'.out];rfl)|rw [HG'.out],HX.out.below⟩
def eqS (a b:ByteArray):Bool:=a.toList==b.toList
def eqB (a b:Bool):Bool:=a==b
def q0a {α:Type} (f: α→ α→Bool) (xs ys:List α):Bool:=decide (xs.length=ys.length)&&(xs.zip ys).all fun p=>f p.1 p.2
def sSp (p q:ByteArray × ByteArray):Bool:=eqS p.1 q.1&&eqS p.2 q.2
def sAr (f:TT→TT→Bool) (a b:AR):Bool:=decide (a.min=b.min)&&(decide (a.max=b.max)&&f a.item b.item)
def sOb (f:TT→TT→Bool) (a b:OB):Bool:=q0a eqS a.names b.names&&(q0a f a.fields b.fields&&(q0a eqB a.must b.must&&f a.rest b.rest))
def q09:Nat→TT→TT→Bool
 | 0,_,_=>false
 | h+1,A,B=>eqB A.all B.all&&(eqB A.nul B.nul&&(eqB A.fls B.fls&&(eqB A.tru B.tru&&(eqB A.any B.any&&(q0a sSp A.nums B.nums&&(q0a eqS A.texts B.texts&&(q0a (sAr (q09 h)) A.arrs B.arrs&&q0a (sOb (q09 h)) A.objs B.objs)))))))
theorem q0S (ao:Option Addr) (M ac:Nat) (xs:List ByteArray) (bo:Option Addr) (N bc:Nat) (ys:List ByteArray) (w:World) (ha:KIn w ao xs) (hb:KIn w bo ys) (hM:xs.length=M) (hN:ys.length=N) (h1:M≤ac) (h2:N≤bc) (h3:M≤140737488355328) (h4:N≤140737488355328):
 Calls Tryz.prog 22 #[.slice ao M ac,.slice bo N bc] w fun e w'=>e= .returned (.bool (q0a eqS xs ys))∧Below w.heap.size w w':=by
 by_cases hMN:M=N
 · subst hMN;obtain ⟨R,hR⟩:∃ R,q0a eqS xs ys=R:=⟨_,rfl⟩;obtain ⟨zs,hzs⟩:∃ zs,xs.zip ys=zs:=⟨_,rfl⟩;have HR:Hid (R=zs.all fun p=>eqS p.1 p.2):=by show _=_;rw [← hR,← hzs];unfold q0a;rw [hM,hN,decide_eq_true rfl,Bool.true_and]
   have HZL:Hid (zs.length=M):=by show _=_;rw [← hzs,List.length_zip,hM,hN,Nat.min_self]
   have HZ:Hid (∀ j,(hj:j<zs.length)→∃ (h1:j<xs.length) (h2:j<ys.length),zs[j]=(xs[j],ys[j])):=by
    intro j hj;subst hzs;have:=List.length_zip (l₁:=xs) (l₂:=ys);exact ⟨by omega,by omega,by rw [List.getElem_zip]⟩
   rw [hR];have HA:=hQz ha;have HB:=hQz hb;clear ha hb hM hN hR hzs;go_enter Tryz.func22,Tryz.ntmps22;go_wp2_with fail
   go_loopw [5] (fun i wr=>∃ k:Nat,k≤M∧i= .int .i64 (k:Int)∧Hid (Below w.heap.size w wr)∧Hid ((zs.take k).all (fun p=>eqS p.1 p.2)=true)) (fun i _=>M-(intOf i).toNat)
   case atStart=>exact ⟨0,Nat.zero_le _,rfl,Below.refl _ _,rfl⟩
   case round=>
    obtain ⟨k,hk,rfl,HW,HQ⟩:=hrel;by_cases hlt:k<M
    · have hl1:(k:Int)<(M:Int):=by omega
      have hl0:(0:Int)≤(k:Int):=by omega
      have hkl:k<zs.length:=by rw [HZL.out];exact hlt
      obtain ⟨z1,z2,hz⟩:=HZ.out k hkl;obtain ⟨b1,off1,hp1,hbl1,hrow1⟩:=(HA.out.keep HW.out).row (by omega);subst hp1;have x0:=hrow1 k z1;rw [show xs.getD k ByteArray.empty=xs[k] from by simp [List.getD,z1]] at x0;obtain ⟨b2,off2,hp2,hbl2,hrow2⟩:=(HB.out.keep HW.out).row (by omega);subst hp2;have y0:=hrow2 k z2;rw [show ys.getD k ByteArray.empty=ys[k] from by simp [List.getD,z2]] at y0;have HU:Hid ((zs.take (k+1)).all (fun p=>eqS p.1 p.2)=eqS xs[k] ys[k]):=by show _=_;rw [q0x hkl,HQ.out,hz];rfl
      have HNo:Hid (eqS xs[k] ys[k]=false→R=false):=fun hh=>by rw [HR.out];exact q0A hkl (by rw [hz];exact hh)
      obtain ⟨r,hr⟩:∃ r,eqS xs[k] ys[k]=r:=⟨_,rfl⟩;rw [hr] at HU HNo;have A_x0:=fun d os=>cell_regrown x0 d os;have A_y0:=fun d os=>cell_regrown y0 d os;clear hz HQ;go_wp2_with fail
      cases r with
      | true=>
       have HU':=HU;have hr1:(xs[k].toList==ys[k].toList)=true:=hr;have hr2:(xs[k].toList != ys[k].toList)=false:=by simp only [bne];rw [hr1];rfl
       refine wp_region_quiet_below (by kernel_rfl) (by kernel_rfl) ?_
       repeat (go_big_quiet_step (fail))
       refine wpQuiet_nil ?_;intro w9 hw'
       have hb9:Below wr.heap.size wr w9:=by
        obtain ⟨⟨dq,osq⟩,rfl⟩:=hw';exact below_regrown wr dq osq
       have HW9:=hQz (HW.out.trans (hb9.mono HW.out.size));clear hw' hb9 A_x0 x0 A_y0 y0;go_wp2_with fail;go_roundw
       case rel=>exact ⟨k+1,hlt,by go_num,HW9,HU'⟩
       case measure=>simp [intOf];omega
      | false=>
       have HF':=hQz (HNo.out rfl);have hr1:(xs[k].toList==ys[k].toList)=false:=hr;have hr2:(xs[k].toList != ys[k].toList)=true:=by simp only [bne];rw [hr1];rfl
       refine wp_region_quiet_below (by kernel_rfl) (by kernel_rfl) ?_
       repeat (go_big_quiet_step (fail))
       refine wpQuiet_nil ?_;intro w9 hw'
       have hb9:Below wr.heap.size wr w9:=by
        obtain ⟨⟨dq,osq⟩,rfl⟩:=hw';exact below_regrown wr dq osq
       have HW9:=hQz (HW.out.trans (hb9.mono HW.out.size));clear hw' hb9 A_x0 x0 A_y0 y0;go_wp2_with fail;go_ret;exact ⟨by first|(rw [HF'.out];rfl)|rw [HF'.out],HW9.out⟩
    · have hl1:¬ (k:Int)<(M:Int):=by omega
      have HF':Hid (R=true):=by show _=_;rw [HR.out,← HQ.out,List.take_of_length_le (by rw [HZL.out];omega)]
      go_wp2_with fail;go_ret;exact ⟨by first|(rw [HF'.out];rfl)|rw [HF'.out],HW.out⟩
 · have hne:¬ (M:Int)=(N:Int):=by omega
   have HF:Hid (q0a eqS xs ys=false):=by show _=_;unfold q0a;rw [hM,hN,decide_eq_false hMN,Bool.false_and]
   clear ha hb hM hN hMN;go_enter Tryz.func22,Tryz.ntmps22;go_wp2_with fail;go_ret;exact ⟨by first|(rw [HF.out];rfl)|rw [HF.out],Below.refl _ _⟩
theorem w_kSameBools (ao:Option Addr) (M ac:Nat) (xs:List Bool) (bo:Option Addr) (N bc:Nat) (ys:List Bool) (w:World) (ha:BoIn w ao xs) (hb:BoIn w bo ys) (hM:xs.length=M) (hN:ys.length=N) (h1:M≤ac) (h2:N≤bc) (h3:M≤140737488355328) (h4:N≤140737488355328):
 Calls Tryz.prog 120 #[.slice ao M ac,.slice bo N bc] w fun e w'=>e= .returned (.bool (q0a eqB xs ys))∧Below w.heap.size w w':=by
 by_cases hMN:M=N
 · subst hMN;obtain ⟨R,hR⟩:∃ R,q0a eqB xs ys=R:=⟨_,rfl⟩;obtain ⟨zs,hzs⟩:∃ zs,xs.zip ys=zs:=⟨_,rfl⟩;have HR:Hid (R=zs.all fun p=>eqB p.1 p.2):=by show _=_;rw [← hR,← hzs];unfold q0a;rw [hM,hN,decide_eq_true rfl,Bool.true_and]
   have HZL:Hid (zs.length=M):=by show _=_;rw [← hzs,List.length_zip,hM,hN,Nat.min_self]
   have HZ:Hid (∀ j,(hj:j<zs.length)→∃ (h1:j<xs.length) (h2:j<ys.length),zs[j]=(xs[j],ys[j])):=by
    intro j hj;subst hzs;have:=List.length_zip (l₁:=xs) (l₂:=ys);exact ⟨by omega,by omega,by rw [List.getElem_zip]⟩
   rw [hR];have HA:=hQz ha;have HB:=hQz hb;clear ha hb hM hN hR hzs;go_enter Tryz.func120,Tryz.ntmps120;go_wp2_with fail
   go_loopw [5] (fun i wr=>∃ k:Nat,k≤M∧i= .int .i64 (k:Int)∧Hid (Below w.heap.size w wr)∧Hid ((zs.take k).all (fun p=>eqB p.1 p.2)=true)) (fun i _=>M-(intOf i).toNat)
   case atStart=>exact ⟨0,Nat.zero_le _,rfl,Below.refl _ _,rfl⟩
   case round=>
    obtain ⟨k,hk,rfl,HW,HQ⟩:=hrel;by_cases hlt:k<M
    · have hl1:(k:Int)<(M:Int):=by omega
      have hl0:(0:Int)≤(k:Int):=by omega
      have hkl:k<zs.length:=by rw [HZL.out];exact hlt
      obtain ⟨z1,z2,hz⟩:=HZ.out k hkl;obtain ⟨b1,off1,hp1,hbl1,hrow1⟩:=(HA.out.keep HW.out).row (by omega);subst hp1;have x0:=hrow1 k z1;obtain ⟨b2,off2,hp2,hbl2,hrow2⟩:=(HB.out.keep HW.out).row (by omega);subst hp2;have y0:=hrow2 k z2;have HU:Hid ((zs.take (k+1)).all (fun p=>eqB p.1 p.2)=eqB xs[k] ys[k]):=by show _=_;rw [q0x hkl,HQ.out,hz];rfl
      have HNo:Hid (eqB xs[k] ys[k]=false→R=false):=fun hh=>by rw [HR.out];exact q0A hkl (by rw [hz];exact hh)
      obtain ⟨r,hr⟩:∃ r,eqB xs[k] ys[k]=r:=⟨_,rfl⟩;rw [hr] at HU HNo;have A_x0:=fun d os=>cell_regrown x0 d os;have A_y0:=fun d os=>cell_regrown y0 d os;clear hz HQ;go_wp2_with fail
      cases r with
      | true=>
       have HU':=HU;have hr1:(xs[k]==ys[k])=true:=hr;have hr2:(xs[k] != ys[k])=false:=by simp only [bne];rw [hr1];rfl
       refine wp_region_quiet_below (by kernel_rfl) (by kernel_rfl) ?_
       repeat (go_big_quiet_step (fail))
       refine wpQuiet_nil ?_;intro w9 hw'
       have hb9:Below wr.heap.size wr w9:=by
        obtain ⟨⟨dq,osq⟩,rfl⟩:=hw';exact below_regrown wr dq osq
       have HW9:=hQz (HW.out.trans (hb9.mono HW.out.size));clear hw' hb9 A_x0 x0 A_y0 y0;go_wp2_with fail;go_roundw
       case rel=>exact ⟨k+1,hlt,by go_num,HW9,HU'⟩
       case measure=>simp [intOf];omega
      | false=>
       have HF':=hQz (HNo.out rfl);have hr1:(xs[k]==ys[k])=false:=hr;have hr2:(xs[k] != ys[k])=true:=by simp only [bne];rw [hr1];rfl
       refine wp_region_quiet_below (by kernel_rfl) (by kernel_rfl) ?_
       repeat (go_big_quiet_step (fail))
       refine wpQuiet_nil ?_;intro w9 hw'
       have hb9:Below wr.heap.size wr w9:=by
        obtain ⟨⟨dq,osq⟩,rfl⟩:=hw';exact below_regrown wr dq osq
       have HW9:=hQz (HW.out.trans (hb9.mono HW.out.size));clear hw' hb9 A_x0 x0 A_y0 y0;go_wp2_with fail;go_ret;exact ⟨by first|(rw [HF'.out];rfl)|rw [HF'.out],HW9.out⟩
    · have hl1:¬ (k:Int)<(M:Int):=by omega
      have HF':Hid (R=true):=by show _=_;rw [HR.out,← HQ.out,List.take_of_length_le (by rw [HZL.out];omega)]
      go_wp2_with fail;go_ret;exact ⟨by first|(rw [HF'.out];rfl)|rw [HF'.out],HW.out⟩
 · have hne:¬ (M:Int)=(N:Int):=by omega
   have HF:Hid (q0a eqB xs ys=false):=by show _=_;unfold q0a;rw [hM,hN,decide_eq_false hMN,Bool.false_and]
   clear ha hb hM hN hMN;go_enter Tryz.func120,Tryz.ntmps120;go_wp2_with fail;go_ret;exact ⟨by first|(rw [HF.out];rfl)|rw [HF.out],Below.refl _ _⟩
theorem w_kSameSpan (al ah bl bh:ByteArray) (w:World):Calls Tryz.prog 71 #[.agg #[.string al,.string ah],.agg #[.string bl,.string bh]] w fun e w'=>e= .returned (.bool (sSp (al,ah) (bl,bh)))∧Below w.heap.size w w':=by
 obtain ⟨W0,hW0⟩:∃ W0,(w.alloc (.cells #[.string al,.string ah] 83)).alloc (.cells #[.string bl,.string bh] 83)=W0:=⟨_,rfl⟩;have HB:Hid (Below w.heap.size w W0):=by rw [← hW0];exact ((Below.refl _ _).alloc (Nat.le_refl _) _).alloc (by simp) _
 have c0:W0.cell? ⟨w.heap.size,0,none⟩=some (.string al):=by rw [← hW0];simp [go_sem]
 have c1:W0.cell? ⟨w.heap.size,1,none⟩=some (.string ah):=by rw [← hW0];simp [go_sem]
 have c2:W0.cell? ⟨w.heap.size+1,0,none⟩=some (.string bl):=by rw [← hW0];simp [go_sem]
 have c3:W0.cell? ⟨w.heap.size+1,1,none⟩=some (.string bh):=by rw [← hW0];simp [go_sem]
 cases e1:(al.toList==bl.toList) <;> cases e2:(ah.toList==bh.toList)
 all_goals
  have f1:(al.toList != bl.toList)= !(al.toList==bl.toList):=rfl;have f2:(ah.toList != bh.toList)= !(ah.toList==bh.toList):=rfl;rw [e1] at f1;rw [e2] at f2;have HG:=hQz (show sSp (al,ah) (bl,bh)=_ from by unfold sSp eqS;rw [e1,e2]);simp only [Bool.not_true,Bool.not_false] at f1 f2;go_enter Tryz.func71,Tryz.ntmps71;go_wp2_with fail;go_ret;exact ⟨by first|(rw [HG.out];rfl)|rw [HG.out],HB.out⟩
theorem w_kSameSpans (ao:Option Addr) (M ac:Nat) (xs:List (ByteArray × ByteArray)) (bo:Option Addr) (N bc:Nat) (ys:List (ByteArray × ByteArray)) (w:World) (ha:SpIn w ao xs) (hb:SpIn w bo ys) (hM:xs.length=M) (hN:ys.length=N) (h1:M≤ac) (h2:N≤bc) (h3:M≤140737488355328) (h4:N≤140737488355328):
 Calls Tryz.prog 21 #[.slice ao M ac,.slice bo N bc] w fun e w'=>e= .returned (.bool (q0a sSp xs ys))∧Below w.heap.size w w':=by
 by_cases hMN:M=N
 · subst hMN;obtain ⟨R,hR⟩:∃ R,q0a sSp xs ys=R:=⟨_,rfl⟩;obtain ⟨zs,hzs⟩:∃ zs,xs.zip ys=zs:=⟨_,rfl⟩;have HR:Hid (R=zs.all fun p=>sSp p.1 p.2):=by show _=_;rw [← hR,← hzs];unfold q0a;rw [hM,hN,decide_eq_true rfl,Bool.true_and]
   have HZL:Hid (zs.length=M):=by show _=_;rw [← hzs,List.length_zip,hM,hN,Nat.min_self]
   have HZ:Hid (∀ j,(hj:j<zs.length)→∃ (h1:j<xs.length) (h2:j<ys.length),zs[j]=(xs[j],ys[j])):=by
    intro j hj;subst hzs;have:=List.length_zip (l₁:=xs) (l₂:=ys);exact ⟨by omega,by omega,by rw [List.getElem_zip]⟩
   rw [hR];have HA:=hQz ha;have HB:=hQz hb;clear ha hb hM hN hR hzs;go_enter Tryz.func21,Tryz.ntmps21;go_wp2_with fail
   go_loopw [5] (fun i wr=>∃ k:Nat,k≤M∧i= .int .i64 (k:Int)∧Hid (Below w.heap.size w wr)∧Hid ((zs.take k).all (fun p=>sSp p.1 p.2)=true)) (fun i _=>M-(intOf i).toNat)
   case atStart=>exact ⟨0,Nat.zero_le _,rfl,Below.refl _ _,rfl⟩
   case round=>
    obtain ⟨k,hk,rfl,HW,HQ⟩:=hrel;by_cases hlt:k<M
    · have hl1:(k:Int)<(M:Int):=by omega
      have hl0:(0:Int)≤(k:Int):=by omega
      have hkl:k<zs.length:=by rw [HZL.out];exact hlt
      obtain ⟨z1,z2,hz⟩:=HZ.out k hkl;obtain ⟨b1,off1,hp1,hbl1,hrow1⟩:=(HA.out.keep HW.out).row (by omega);subst hp1;obtain ⟨x0,x1⟩:=hrow1 k z1;obtain ⟨b2,off2,hp2,hbl2,hrow2⟩:=(HB.out.keep HW.out).row (by omega);subst hp2;obtain ⟨y0,y1⟩:=hrow2 k z2;have HC:=hQz (fun (d:Nat) (os:Array Obj)=>w_kSameSpan xs[k].1 xs[k].2 ys[k].1 ys[k].2 (grow (redrawn wr d) os));have HU:Hid ((zs.take (k+1)).all (fun p=>sSp p.1 p.2)=sSp xs[k] ys[k]):=by show _=_;rw [q0x hkl,HQ.out,hz];rfl
      have HNo:Hid (sSp xs[k] ys[k]=false→R=false):=fun hh=>by rw [HR.out];exact q0A hkl (by rw [hz];exact hh)
      obtain ⟨r,hr⟩:∃ r,sSp xs[k] ys[k]=r:=⟨_,rfl⟩;rw [hr] at HU HNo;rw [hr] at HC;clear hr;have A_x0:=fun d os=>cell_regrown x0 d os;have A_x1:=fun d os=>cell_regrown x1 d os;have A_y0:=fun d os=>cell_regrown y0 d os;have A_y1:=fun d os=>cell_regrown y1 d os;clear hz HQ;go_wp2_with fail
      cases r with
      | true=>
       have HU':=HU;refine wp_region_quiet_below (by kernel_rfl) (by kernel_rfl) ?_
       repeat (go_big_quiet_step (exact Calls.regrown_of (HC.out _ _)))
       refine wpQuiet_nil ?_;intro w9 hw'
       have hb9:Below wr.heap.size wr w9:=by
        obtain ⟨⟨dq,osq⟩,rfl⟩:=hw';exact below_regrown wr dq osq
       have HW9:=hQz (HW.out.trans (hb9.mono HW.out.size));clear hw' hb9 A_x0 x0 A_x1 x1 A_y0 y0 A_y1 y1;go_wp2_with fail;go_roundw
       case rel=>exact ⟨k+1,hlt,by go_num,HW9,HU'⟩
       case measure=>simp [intOf];omega
      | false=>
       have HF':=hQz (HNo.out rfl);refine wp_region_quiet_below (by kernel_rfl) (by kernel_rfl) ?_
       repeat (go_big_quiet_step (exact Calls.regrown_of (HC.out _ _)))
       refine wpQuiet_nil ?_;intro w9 hw'
       have hb9:Below wr.heap.size wr w9:=by
        obtain ⟨⟨dq,osq⟩,rfl⟩:=hw';exact below_regrown wr dq osq
       have HW9:=hQz (HW.out.trans (hb9.mono HW.out.size));clear hw' hb9 A_x0 x0 A_x1 x1 A_y0 y0 A_y1 y1;go_wp2_with fail;go_ret;exact ⟨by first|(rw [HF'.out];rfl)|rw [HF'.out],HW9.out⟩
    · have hl1:¬ (k:Int)<(M:Int):=by omega
      have HF':Hid (R=true):=by show _=_;rw [HR.out,← HQ.out,List.take_of_length_le (by rw [HZL.out];omega)]
      go_wp2_with fail;go_ret;exact ⟨by first|(rw [HF'.out];rfl)|rw [HF'.out],HW.out⟩
 · have hne:¬ (M:Int)=(N:Int):=by omega
   have HF:Hid (q0a sSp xs ys=false):=by show _=_;unfold q0a;rw [hM,hN,decide_eq_false hMN,Bool.false_and]
   clear ha hb hM hN hMN;go_enter Tryz.func21,Tryz.ntmps21;go_wp2_with fail;go_ret;exact ⟨by first|(rw [HF.out];rfl)|rw [HF.out],Below.refl _ _⟩
end Go.Proofs.YtnokkmiaeacogaaGreat
