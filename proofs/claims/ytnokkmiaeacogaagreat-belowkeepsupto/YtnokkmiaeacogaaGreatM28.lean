import Derived.Test.YtnokkmiaeacogaaGreatM27
import Derived.Test.YtnokkmiaeacogaaGreatM11
import Derived.Test.YtnokkmiaeacogaaGreatM16
import Derived.RangeFuncNested
import Derived.RangeFuncBound
import Derived.RangeFuncCalls
import Derived.RangeFuncLeaves
import Derived.RangeFuncBox
import Derived.Shelf.Abstract
import Derived.Shelf.RegionOpen
import Derived.OwnWalkIn
import Derived.TacticsInMore
import Derived.LoopNIn
import Derived.LoopIn
import Derived.Deep.Slices
set_option linter.unusedVariables false
set_option linter.unusedSimpArgs false
namespace Go.Proofs.YtnokkmiaeacogaaGreat
open Go.RowKit Go.Shelf Go.Sort
attribute [local go_sem] Oper.semAt_some
set_option maxRecDepth 100000
set_option maxHeartbeats 12800000
structure ObIn (W:World) (h:Nat) (oo:Option Addr) (os:List OB):Prop where
 row:0<os.length→∃ b off,oo=some ⟨b,off,none⟩∧b<W.heap.size∧∀ i,(hi:i<os.length)→∃ (ko:Option Addr) (kc:Nat) (fo:Option Addr) (fc:Nat) (mo:Option Addr) (mc:Nat) (c0 c1 c2 c3 c4 c5 c6 c7 c8:Value),
  (W.cell? ⟨b,off+i*12,none⟩=some (.slice ko os[i].names.length kc)∧W.cell? ⟨b,off+i*12+1,none⟩=some (.slice fo os[i].fields.length fc)∧W.cell? ⟨b,off+i*12+2,none⟩=some (.slice mo os[i].must.length mc))∧
  C9 W b (off+i*12+3) c0 c1 c2 c3 c4 c5 c6 c7 c8∧InO W h os[i] ko kc fo fc mo mc c0 c1 c2 c3 c4 c5 c6 c7 c8
theorem ObIn.keep {W W':World} {h:Nat} {oo:Option Addr} {os:List OB} (x:ObIn W h oo os) (hb:Below W.heap.size W W'):ObIn W' h oo os:=by
 refine ⟨fun h0=> ?_⟩;obtain ⟨b,off,e2,hl,hc⟩:=x.row h0;refine ⟨b,off,e2,Nat.lt_of_lt_of_le hl hb.size,fun i hi=> ?_⟩;obtain ⟨ko,kc,fo,fc,mo,mc,c0,c1,c2,c3,c4,c5,c6,c7,c8,⟨g1,g2,g3⟩,h1,h2⟩:=hc i hi;exact ⟨ko,kc,fo,fc,mo,mc,c0,c1,c2,c3,c4,c5,c6,c7,c8,⟨(hb.cell (p:=⟨_,_,_⟩) hl).trans g1,(hb.cell (p:=⟨_,_,_⟩) hl).trans g2,(hb.cell (p:=⟨_,_,_⟩) hl).trans g3⟩,h1.keep hb hl,h2.keep hb⟩
theorem w_robjects (h:Nat) (ih:FtOk h) (oo:Option Addr) (N oc:Nat) (os:List OB) (w:World) (hI:ObIn w h oo os) (hN:os.length=N) (hc:N≤oc) (hN2:N≤140737488355328):
 Calls Tryz.prog 49 #[.slice oo N oc] w fun e w'=>e= .returned (.bool (os.all (obOk (fmN h))))∧Below w.heap.size w w':=by
 have HI:=hQz hI;have HNN:=hQz hN;have HIh:=hQz ih;clear hI hN ih;go_enter Tryz.func49,Tryz.ntmps49;go_wp2_with fail
 go_loopw [3] (fun i wr=>∃ k:Nat,k≤N∧i= .int .i64 (k:Int)∧Hid (Below w.heap.size w wr)∧Hid ((os.take k).all (obOk (fmN h))=true)) (fun i _=>N-(intOf i).toNat)
 case atStart=>exact ⟨0,Nat.zero_le _,rfl,Below.refl _ _,rfl⟩
 case round=>
  obtain ⟨k,hk,rfl,HB,HQ⟩:=hrel;by_cases hlt:k<N
  · have hl1:(k:Int)<(N:Int):=by omega
    have hl0:(0:Int)≤(k:Int):=by omega
    have hkl:k<os.length:=by rw [HNN.out];exact hlt
    obtain ⟨b,off,hio,hbl,hrow⟩:=(HI.out.keep HB.out).row (by omega);subst hio;obtain ⟨ko,kc,fo,fc,mo,mc,c0,c1,c2,c3,c4,c5,c6,c7,c8,⟨g1,g2,g3⟩,hc9,hO⟩:=hrow k hkl;have HC:=hQz (w_robject h HIh.out os[k] ko kc fo fc mo mc c0 c1 c2 c3 c4 c5 c6 c7 c8 wr hO);obtain ⟨e0,e1,e2,e3,e4,e5,e6,e7,e8,esh⟩:=q02 hO.rest;simp only [Value.agg.injEq,Array.mk.injEq,List.cons.injEq,and_true] at esh;obtain ⟨rfl,rfl,rfl,rfl,rfl,rfl,rfl,rfl,rfl⟩:=esh;obtain ⟨q0,q1,q2,q3,q4,q5,q6,q7,q8⟩:=hc9;have HUp:=hQz (q0x (f:=obOk (fmN h)) hkl);have HNo:=hQz (fun hh=>q0A (f:=obOk (fmN h)) hkl hh);generalize os[k].names.length=n1 at *;generalize os[k].fields.length=n2 at *;generalize os[k].must.length=n3 at *;clear hrow hbl hO
    cases hf:obOk (fmN h) os[k] with
    | true=>
     rw [hf] at HC;have HN:Hid ((os.take (k+1)).all (obOk (fmN h))=true):=by show _=_;rw [HUp.out,HQ.out,hf];rfl
     clear hf hkl HUp HNo;go_wp2_with fail;refine HC.out.mono ?_;rintro e w2 ⟨rfl,hb2⟩;have HB2:=hQz (HB.out.trans (hb2.mono HB.out.size));clear hb2 g1 g2 g3 q0 q1 q2 q3 q4 q5 q6 q7 q8;go_wp2_with fail;go_roundw
     case rel=>exact ⟨k+1,hlt,by go_num,HB2,HN⟩
     case measure=>simp [intOf];omega
    | false=>
     rw [hf] at HC;have HF:=hQz (HNo.out hf);clear hf hkl HUp HNo;go_wp2_with fail;refine HC.out.mono ?_;rintro e w2 ⟨rfl,hb2⟩;have HB2:=hQz (HB.out.trans (hb2.mono HB.out.size));clear hb2 g1 g2 g3 q0 q1 q2 q3 q4 q5 q6 q7 q8;go_wp2_with fail;go_ret;exact ⟨by rw [HF.out];rfl,HB2.out⟩
  · have hl1:¬ (k:Int)<(N:Int):=by omega
    have HF:Hid (os.all (obOk (fmN h))=true):=by
     have h1:=HQ.out;rw [List.take_of_length_le (by rw [HNN.out];omega)] at h1;exact h1
    go_wp2_with fail;go_ret;exact ⟨by rw [HF.out];rfl,HB.out⟩
theorem formed_v (b0 b1 b2 b3 b5:Bool) (no xo ao oo:Option Addr) (nn nc nx xc NA ac NO oc:Nat) (w:World) (a6:nx≤140737488355328) (ba ri sp ar ob:Bool)
 (HBa:Hid (∀ u,Below w.heap.size w u→Calls Tryz.prog 45 #[.agg #[.bool b0,.bool b1,.bool b2,.bool b3,.slice no nn nc,.bool b5,.slice xo nx xc,.slice ao NA ac,.slice oo NO oc]] u fun e w'=>e= .returned (.bool ba)∧Below u.heap.size u w'))
 (HSp:Hid (∀ u,Below w.heap.size w u→Calls Tryz.prog 47 #[.slice no nn nc] u fun e w'=>e= .returned (.bool sp)∧Below u.heap.size u w'))
 (HAr:Hid (∀ u,Below w.heap.size w u→Calls Tryz.prog 48 #[.slice ao NA ac] u fun e w'=>e= .returned (.bool ar)∧Below u.heap.size u w'))
 (HOb:Hid (∀ u,Below w.heap.size w u→Calls Tryz.prog 49 #[.slice oo NO oc] u fun e w'=>e= .returned (.bool ob)∧Below u.heap.size u w'))
 (HRi:Hid (∀ u,Below w.heap.size w u→Calls Tryz.prog 46 #[.slice xo nx xc] u fun e w'=>e= .returned (.bool ri)∧Below u.heap.size u w')):
 Calls Tryz.prog 12 #[.agg #[.bool b0,.bool b1,.bool b2,.bool b3,.slice no nn nc,.bool b5,.slice xo nx xc,.slice ao NA ac,.slice oo NO oc]] w fun e w'=>e= .returned (.bool (!(b0&& !ba)&&(ri&&(!(b5&&decide (0<nx))&&(sp&&(ar&&ob))))))∧Below w.heap.size w w':=by
 have HX0:=hQz (tbx_new w (.bool b0) (.bool b1) (.bool b2) (.bool b3) (.slice no nn nc) (.bool b5) (.slice xo nx xc) (.slice ao NA ac) (.slice oo NO oc));obtain ⟨W0,hW0⟩:∃ W0,w.alloc (.cells #[.bool b0,.bool b1,.bool b2,.bool b3,.slice no nn nc,.bool b5,.slice xo nx xc,.slice ao NA ac,.slice oo NO oc] 27)=W0:=⟨_,rfl⟩;rw [hW0] at HX0;obtain ⟨_,c0,c1,c2,c3,c4,c5,c6,c7,c8,_⟩:=HX0.out
 cases b0 with
 | false=>
  go_enter Tryz.func12,Tryz.ntmps12
  cases ri with
  | false=>
   go_wp2_with fail;refine (HRi.out _ HX0.out.below).mono ?_;rintro e v1 ⟨rfl,hq⟩;have HX1:=hQz (HX0.out.keep hq);clear hq HX0 c0 c1 c2 c3 c4 c5 c6 c7 c8 hW0;obtain ⟨_,c0,c1,c2,c3,c4,c5,c6,c7,c8,_⟩:=HX1.out;go_wp2_with fail;go_ret;exact ⟨by first|rfl|(simp;done)|(simp [*];done)|(simp;omega),HX1.out.below⟩
  | true=>
   cases b5 with
   | false=>
    go_wp2_with fail;refine (HRi.out _ HX0.out.below).mono ?_;rintro e v1 ⟨rfl,hq⟩;have HX1:=hQz (HX0.out.keep hq);clear hq HX0 c0 c1 c2 c3 c4 c5 c6 c7 c8 hW0;obtain ⟨_,c0,c1,c2,c3,c4,c5,c6,c7,c8,_⟩:=HX1.out
    cases sp with
    | false=>
     go_wp2_with fail;refine (HSp.out _ HX1.out.below).mono ?_;rintro e v2 ⟨rfl,hq⟩;have HX2:=hQz (HX1.out.keep hq);clear hq HX1 c0 c1 c2 c3 c4 c5 c6 c7 c8;obtain ⟨_,c0,c1,c2,c3,c4,c5,c6,c7,c8,_⟩:=HX2.out;go_wp2_with fail;go_ret;exact ⟨by first|rfl|(simp;done)|(simp [*];done)|(simp;omega),HX2.out.below⟩
    | true=>
     cases ar with
     | false=>
      go_wp2_with fail;refine (HSp.out _ HX1.out.below).mono ?_;rintro e v2 ⟨rfl,hq⟩;have HX2:=hQz (HX1.out.keep hq);clear hq HX1 c0 c1 c2 c3 c4 c5 c6 c7 c8;obtain ⟨_,c0,c1,c2,c3,c4,c5,c6,c7,c8,_⟩:=HX2.out;go_wp2_with fail;refine (HAr.out _ HX2.out.below).mono ?_;rintro e v3 ⟨rfl,hq⟩;have HX3:=hQz (HX2.out.keep hq);clear hq HX2 c0 c1 c2 c3 c4 c5 c6 c7 c8;obtain ⟨_,c0,c1,c2,c3,c4,c5,c6,c7,c8,_⟩:=HX3.out;go_wp2_with fail;go_ret;exact ⟨by first|rfl|(simp;done)|(simp [*];done)|(simp;omega),HX3.out.below⟩
     | true=>
      go_wp2_with fail;refine (HSp.out _ HX1.out.below).mono ?_;rintro e v2 ⟨rfl,hq⟩;have HX2:=hQz (HX1.out.keep hq);clear hq HX1 c0 c1 c2 c3 c4 c5 c6 c7 c8;obtain ⟨_,c0,c1,c2,c3,c4,c5,c6,c7,c8,_⟩:=HX2.out;go_wp2_with fail;refine (HAr.out _ HX2.out.below).mono ?_;rintro e v3 ⟨rfl,hq⟩;have HX3:=hQz (HX2.out.keep hq);clear hq HX2 c0 c1 c2 c3 c4 c5 c6 c7 c8;obtain ⟨_,c0,c1,c2,c3,c4,c5,c6,c7,c8,_⟩:=HX3.out;go_wp2_with fail;refine (HOb.out _ HX3.out.below).mono ?_;rintro e v4 ⟨rfl,hq⟩;have HX4:=hQz (HX3.out.keep hq);clear hq HX3 c0 c1 c2 c3 c4 c5 c6 c7 c8;obtain ⟨_,c0,c1,c2,c3,c4,c5,c6,c7,c8,_⟩:=HX4.out;go_wp2_with fail;go_ret;exact ⟨by first|rfl|(simp;done)|(simp [*];done)|(simp;omega),HX4.out.below⟩
   | true=>
    by_cases z:nx=0
    · subst z;go_wp2_with fail;refine (HRi.out _ HX0.out.below).mono ?_;rintro e v1 ⟨rfl,hq⟩;have HX1:=hQz (HX0.out.keep hq);clear hq HX0 c0 c1 c2 c3 c4 c5 c6 c7 c8 hW0;obtain ⟨_,c0,c1,c2,c3,c4,c5,c6,c7,c8,_⟩:=HX1.out
      cases sp with
      | false=>
       go_wp2_with fail;refine (HSp.out _ HX1.out.below).mono ?_;rintro e v2 ⟨rfl,hq⟩;have HX2:=hQz (HX1.out.keep hq);clear hq HX1 c0 c1 c2 c3 c4 c5 c6 c7 c8;obtain ⟨_,c0,c1,c2,c3,c4,c5,c6,c7,c8,_⟩:=HX2.out;go_wp2_with fail;go_ret;exact ⟨by first|rfl|(simp;done)|(simp [*];done)|(simp;omega),HX2.out.below⟩
      | true=>
       cases ar with
       | false=>
        go_wp2_with fail;refine (HSp.out _ HX1.out.below).mono ?_;rintro e v2 ⟨rfl,hq⟩;have HX2:=hQz (HX1.out.keep hq);clear hq HX1 c0 c1 c2 c3 c4 c5 c6 c7 c8;obtain ⟨_,c0,c1,c2,c3,c4,c5,c6,c7,c8,_⟩:=HX2.out;go_wp2_with fail;refine (HAr.out _ HX2.out.below).mono ?_;rintro e v3 ⟨rfl,hq⟩;have HX3:=hQz (HX2.out.keep hq);clear hq HX2 c0 c1 c2 c3 c4 c5 c6 c7 c8;obtain ⟨_,c0,c1,c2,c3,c4,c5,c6,c7,c8,_⟩:=HX3.out;go_wp2_with fail;go_ret;exact ⟨by first|rfl|(simp;done)|(simp [*];done)|(simp;omega),HX3.out.below⟩
       | true=>
        go_wp2_with fail;refine (HSp.out _ HX1.out.below).mono ?_;rintro e v2 ⟨rfl,hq⟩;have HX2:=hQz (HX1.out.keep hq);clear hq HX1 c0 c1 c2 c3 c4 c5 c6 c7 c8;obtain ⟨_,c0,c1,c2,c3,c4,c5,c6,c7,c8,_⟩:=HX2.out;go_wp2_with fail;refine (HAr.out _ HX2.out.below).mono ?_;rintro e v3 ⟨rfl,hq⟩;have HX3:=hQz (HX2.out.keep hq);clear hq HX2 c0 c1 c2 c3 c4 c5 c6 c7 c8;obtain ⟨_,c0,c1,c2,c3,c4,c5,c6,c7,c8,_⟩:=HX3.out;go_wp2_with fail;refine (HOb.out _ HX3.out.below).mono ?_;rintro e v4 ⟨rfl,hq⟩;have HX4:=hQz (HX3.out.keep hq);clear hq HX3 c0 c1 c2 c3 c4 c5 c6 c7 c8;obtain ⟨_,c0,c1,c2,c3,c4,c5,c6,c7,c8,_⟩:=HX4.out;go_wp2_with fail;go_ret;exact ⟨by first|rfl|(simp;done)|(simp [*];done)|(simp;omega),HX4.out.below⟩
    · have z1:(0:Int)<(nx:Int):=by omega
      have z2:0<nx:=by omega
      go_wp2_with fail;refine (HRi.out _ HX0.out.below).mono ?_;rintro e v1 ⟨rfl,hq⟩;have HX1:=hQz (HX0.out.keep hq);clear hq HX0 c0 c1 c2 c3 c4 c5 c6 c7 c8 hW0;obtain ⟨_,c0,c1,c2,c3,c4,c5,c6,c7,c8,_⟩:=HX1.out;go_wp2_with fail;go_ret;exact ⟨by first|rfl|(simp;done)|(simp [*];done)|(simp;omega),HX1.out.below⟩
 | true=>
  cases ba with
  | false=>
   go_enter Tryz.func12,Tryz.ntmps12;go_wp2_with fail;refine (HBa.out _ HX0.out.below).mono ?_;rintro e v1 ⟨rfl,hq⟩;have HX1:=hQz (HX0.out.keep hq);clear hq HX0 c0 c1 c2 c3 c4 c5 c6 c7 c8 hW0;obtain ⟨_,c0,c1,c2,c3,c4,c5,c6,c7,c8,_⟩:=HX1.out;go_wp2_with fail;go_ret;exact ⟨by first|rfl|(simp;done)|(simp [*];done)|(simp;omega),HX1.out.below⟩
  | true=>
   go_enter Tryz.func12,Tryz.ntmps12;go_wp2_with fail;refine (HBa.out _ HX0.out.below).mono ?_;rintro e v1 ⟨rfl,hq⟩;have HX1:=hQz (HX0.out.keep hq);clear hq HX0 c0 c1 c2 c3 c4 c5 c6 c7 c8 hW0;obtain ⟨_,c0,c1,c2,c3,c4,c5,c6,c7,c8,_⟩:=HX1.out
   cases ri with
   | false=>
    go_wp2_with fail;refine (HRi.out _ HX1.out.below).mono ?_;rintro e v2 ⟨rfl,hq⟩;have HX2:=hQz (HX1.out.keep hq);clear hq HX1 c0 c1 c2 c3 c4 c5 c6 c7 c8;obtain ⟨_,c0,c1,c2,c3,c4,c5,c6,c7,c8,_⟩:=HX2.out;go_wp2_with fail;go_ret;exact ⟨by first|rfl|(simp;done)|(simp [*];done)|(simp;omega),HX2.out.below⟩
   | true=>
    cases b5 with
    | false=>
     go_wp2_with fail;refine (HRi.out _ HX1.out.below).mono ?_;rintro e v2 ⟨rfl,hq⟩;have HX2:=hQz (HX1.out.keep hq);clear hq HX1 c0 c1 c2 c3 c4 c5 c6 c7 c8;obtain ⟨_,c0,c1,c2,c3,c4,c5,c6,c7,c8,_⟩:=HX2.out
     cases sp with
     | false=>
      go_wp2_with fail;refine (HSp.out _ HX2.out.below).mono ?_;rintro e v3 ⟨rfl,hq⟩;have HX3:=hQz (HX2.out.keep hq);clear hq HX2 c0 c1 c2 c3 c4 c5 c6 c7 c8;obtain ⟨_,c0,c1,c2,c3,c4,c5,c6,c7,c8,_⟩:=HX3.out;go_wp2_with fail;go_ret;exact ⟨by first|rfl|(simp;done)|(simp [*];done)|(simp;omega),HX3.out.below⟩
     | true=>
      cases ar with
      | false=>
       go_wp2_with fail;refine (HSp.out _ HX2.out.below).mono ?_;rintro e v3 ⟨rfl,hq⟩;have HX3:=hQz (HX2.out.keep hq);clear hq HX2 c0 c1 c2 c3 c4 c5 c6 c7 c8;obtain ⟨_,c0,c1,c2,c3,c4,c5,c6,c7,c8,_⟩:=HX3.out;go_wp2_with fail;refine (HAr.out _ HX3.out.below).mono ?_;rintro e v4 ⟨rfl,hq⟩;have HX4:=hQz (HX3.out.keep hq);clear hq HX3 c0 c1 c2 c3 c4 c5 c6 c7 c8;obtain ⟨_,c0,c1,c2,c3,c4,c5,c6,c7,c8,_⟩:=HX4.out;go_wp2_with fail;go_ret;exact ⟨by first|rfl|(simp;done)|(simp [*];done)|(simp;omega),HX4.out.below⟩
      | true=>
       go_wp2_with fail;refine (HSp.out _ HX2.out.below).mono ?_;rintro e v3 ⟨rfl,hq⟩;have HX3:=hQz (HX2.out.keep hq);clear hq HX2 c0 c1 c2 c3 c4 c5 c6 c7 c8;obtain ⟨_,c0,c1,c2,c3,c4,c5,c6,c7,c8,_⟩:=HX3.out;go_wp2_with fail;refine (HAr.out _ HX3.out.below).mono ?_;rintro e v4 ⟨rfl,hq⟩;have HX4:=hQz (HX3.out.keep hq);clear hq HX3 c0 c1 c2 c3 c4 c5 c6 c7 c8;obtain ⟨_,c0,c1,c2,c3,c4,c5,c6,c7,c8,_⟩:=HX4.out;go_wp2_with fail;refine (HOb.out _ HX4.out.below).mono ?_;rintro e v5 ⟨rfl,hq⟩;have HX5:=hQz (HX4.out.keep hq);clear hq HX4 c0 c1 c2 c3 c4 c5 c6 c7 c8;obtain ⟨_,c0,c1,c2,c3,c4,c5,c6,c7,c8,_⟩:=HX5.out;go_wp2_with fail;go_ret;exact ⟨by first|rfl|(simp;done)|(simp [*];done)|(simp;omega),HX5.out.below⟩
    | true=>
     by_cases z:nx=0
     · subst z;go_wp2_with fail;refine (HRi.out _ HX1.out.below).mono ?_;rintro e v2 ⟨rfl,hq⟩;have HX2:=hQz (HX1.out.keep hq);clear hq HX1 c0 c1 c2 c3 c4 c5 c6 c7 c8;obtain ⟨_,c0,c1,c2,c3,c4,c5,c6,c7,c8,_⟩:=HX2.out
       cases sp with
       | false=>
        go_wp2_with fail;refine (HSp.out _ HX2.out.below).mono ?_;rintro e v3 ⟨rfl,hq⟩;have HX3:=hQz (HX2.out.keep hq);clear hq HX2 c0 c1 c2 c3 c4 c5 c6 c7 c8;obtain ⟨_,c0,c1,c2,c3,c4,c5,c6,c7,c8,_⟩:=HX3.out;go_wp2_with fail;go_ret;exact ⟨by first|rfl|(simp;done)|(simp [*];done)|(simp;omega),HX3.out.below⟩
       | true=>
        cases ar with
        | false=>
         go_wp2_with fail;refine (HSp.out _ HX2.out.below).mono ?_;rintro e v3 ⟨rfl,hq⟩;have HX3:=hQz (HX2.out.keep hq);clear hq HX2 c0 c1 c2 c3 c4 c5 c6 c7 c8;obtain ⟨_,c0,c1,c2,c3,c4,c5,c6,c7,c8,_⟩:=HX3.out;go_wp2_with fail;refine (HAr.out _ HX3.out.below).mono ?_;rintro e v4 ⟨rfl,hq⟩;have HX4:=hQz (HX3.out.keep hq);clear hq HX3 c0 c1 c2 c3 c4 c5 c6 c7 c8;obtain ⟨_,c0,c1,c2,c3,c4,c5,c6,c7,c8,_⟩:=HX4.out;go_wp2_with fail;go_ret;exact ⟨by first|rfl|(simp;done)|(simp [*];done)|(simp;omega),HX4.out.below⟩
        | true=>
         go_wp2_with fail;refine (HSp.out _ HX2.out.below).mono ?_;rintro e v3 ⟨rfl,hq⟩;have HX3:=hQz (HX2.out.keep hq);clear hq HX2 c0 c1 c2 c3 c4 c5 c6 c7 c8;obtain ⟨_,c0,c1,c2,c3,c4,c5,c6,c7,c8,_⟩:=HX3.out;go_wp2_with fail;refine (HAr.out _ HX3.out.below).mono ?_;rintro e v4 ⟨rfl,hq⟩;have HX4:=hQz (HX3.out.keep hq);clear hq HX3 c0 c1 c2 c3 c4 c5 c6 c7 c8;obtain ⟨_,c0,c1,c2,c3,c4,c5,c6,c7,c8,_⟩:=HX4.out;go_wp2_with fail;refine (HOb.out _ HX4.out.below).mono ?_;rintro e v5 ⟨rfl,hq⟩;have HX5:=hQz (HX4.out.keep hq);clear hq HX4 c0 c1 c2 c3 c4 c5 c6 c7 c8;obtain ⟨_,c0,c1,c2,c3,c4,c5,c6,c7,c8,_⟩:=HX5.out;go_wp2_with fail;go_ret;exact ⟨by first|rfl|(simp;done)|(simp [*];done)|(simp;omega),HX5.out.below⟩
     · have z1:(0:Int)<(nx:Int):=by omega
       have z2:0<nx:=by omega
       go_wp2_with fail;refine (HRi.out _ HX1.out.below).mono ?_;rintro e v2 ⟨rfl,hq⟩;have HX2:=hQz (HX1.out.keep hq);clear hq HX1 c0 c1 c2 c3 c4 c5 c6 c7 c8;obtain ⟨_,c0,c1,c2,c3,c4,c5,c6,c7,c8,_⟩:=HX2.out;go_wp2_with fail;go_ret;exact ⟨by first|rfl|(simp;done)|(simp [*];done)|(simp;omega),HX2.out.below⟩
theorem w_tFormed:∀ h,FtOk h:=by
 intro h
 induction h with
 | zero=>intro T v w hI;exact hI.elim
 | succ h ih=>
  intro T v w hI;have hI2:=hI;obtain ⟨no,nc,xo,xc,ao,ac,oo,oc,rfl,⟨a1,a2,a3,a4⟩,⟨a5,a6,a7,a8⟩,z1,z2,hs,hk,ha,ho⟩:=hI;have hA:ArIn w h ao T.arrs:=⟨ha⟩
  have hO:ObIn w h oo T.objs:=⟨fun h0=>by
   obtain ⟨b,off,e,hl,hc⟩:=ho h0;refine ⟨b,off,e,hl,fun i hi=> ?_⟩;obtain ⟨ko,kc,fo,fc,mo,mc,c0,c1,c2,c3,c4,c5,c6,c7,c8,g,h1,h2,h3,h4,h5,h6,h7⟩:=hc i hi;exact ⟨ko,kc,fo,fc,mo,mc,c0,c1,c2,c3,c4,c5,c6,c7,c8,g,h1,⟨h2,h3,h4,h5,h6,h7⟩⟩⟩
  exact formed_v T.all T.nul T.fls T.tru T.any no xo ao oo T.nums.length nc T.texts.length xc T.arrs.length ac T.objs.length oc w a6 T.bare _ _ _ _
   (hQz fun u hu=>w_rBare (h+1) T _ u (hI2.keep hu))
   (hQz fun u hu=>w_rSpans no _ nc T.nums u (hs.keep hu) rfl a1 a5 z1)
   (hQz fun u hu=>w_rarrays h ih ao _ ac T.arrs u (hA.keep hu) rfl a3 a7)
   (hQz fun u hu=>w_robjects h ih oo _ oc T.objs u (hO.keep hu) rfl a4 a8)
   (hQz fun u hu=>w_Rise xo _ xc T.texts u (hk.keep hu) rfl a2 a6 z2)
end Go.Proofs.YtnokkmiaeacogaaGreat
namespace Go.Proofs.YtnokkmiaeacogaaGreat
open Go.RowKit
set_option maxRecDepth 100000
set_option maxHeartbeats 12800000
theorem q0o (a b:ByteArray):eqS a b=true↔a=b:=by
 unfold eqS;rw [beq_iff_eq,Lib.toList_data,Lib.toList_data];exact ⟨fun h=>Pl.eq_of_toList h,fun h=>by rw [h]⟩
theorem q0j {α:Type} {f: α→ α→Bool}:∀ (xs:List α),(∀ x∈xs,f x x=true)→q0a f xs xs=true
 | [],_=>rfl
 | x::xs,hf=>by
  have ih:=q0j xs (fun z hz=>hf z (List.mem_cons_of_mem _ hz));unfold q0a at ih ⊢;simp only [List.length_cons,List.zip_cons_cons,List.all_cons,Bool.and_eq_true,decide_eq_true_eq] at ih ⊢;exact ⟨trivial,hf x mcS,ih.2⟩
theorem eqB_iff (a b:Bool):eqB a b=true↔a=b:=by cases a <;> cases b <;> decide
end Go.Proofs.YtnokkmiaeacogaaGreat
namespace Go.Proofs.YtnokkmiaeacogaaGreat
open Go.RowKit Go.Shelf
attribute [local go_sem] Oper.semAt_some
set_option maxRecDepth 100000
set_option maxHeartbeats 12800000
structure KpT (n₀ B M:Nat) (W W':World):Prop where
 below:Below n₀ W W'
 box:∀ b j v,(b=B∨M≤b)→W.cell? ⟨b,j,none⟩=some v→W'.cell? ⟨b,j,none⟩=some v
theorem KpT.trans {n₀ B M:Nat} {X Y Z:World} (h:KpT n₀ B M X Y) (k:KpT n₀ B M Y Z):KpT n₀ B M X Z:=⟨h.below.trans k.below,fun b j v hb hv=>k.box b j v hb (h.box b j v hb hv)⟩
theorem KpT.put {n₀ B M:Nat} {w:World} (hm:n₀≤w.heap.size) (W:World) (l:Nat) (o o':Obj) (hl:w.heap.size≤l) (h:W.heap[l]? =some o) (hc:o.isCells=false) (hw:o.isWalk=false):KpT n₀ B M W (W.putObj l o'):=by
 refine ⟨belowK_b (w:=w) hm W l o o' hl h hc hw,fun b j v _ hv=> ?_⟩
 have hne:b≠l:=by
  rintro rfl;unfold World.cell? at hv;simp only [h] at hv
  cases o <;> simp_all [Obj.isCells]
 unfold World.cell? at hv ⊢;rw [show (W.putObj l o').heap[b]? =W.heap[b]? from by simp [World.putObj,Array.getElem?_setIfInBounds,Ne.symm hne]];exact hv
def NineAt (W:World) (b o:Nat) (v:Value):Prop:=∃ c0 c1 c2 c3 c4 c5 c6 c7 c8:Value,v= .agg #[c0,c1,c2,c3,c4,c5,c6,c7,c8]∧C9 W b o c0 c1 c2 c3 c4 c5 c6 c7 c8
theorem NineAt.keep {W W':World} {n b o:Nat} {v:Value} (h:NineAt W b o v) (hb:Below n W W') (hl:b<n):NineAt W' b o v:=by
 obtain ⟨c0,c1,c2,c3,c4,c5,c6,c7,c8,e,x⟩:=h;exact ⟨c0,c1,c2,c3,c4,c5,c6,c7,c8,e,(hb.cell (p:=⟨_,_,_⟩) hl).trans x.c0,(hb.cell (p:=⟨_,_,_⟩) hl).trans x.c1,(hb.cell (p:=⟨_,_,_⟩) hl).trans x.c2,(hb.cell (p:=⟨_,_,_⟩) hl).trans x.c3,(hb.cell (p:=⟨_,_,_⟩) hl).trans x.c4,(hb.cell (p:=⟨_,_,_⟩) hl).trans x.c5,(hb.cell (p:=⟨_,_,_⟩) hl).trans x.c6,(hb.cell (p:=⟨_,_,_⟩) hl).trans x.c7,(hb.cell (p:=⟨_,_,_⟩) hl).trans x.c8⟩
structure InTS (W:World) (n₀ B:Nat) (ao:Option Addr) (ac:Nat) (oo:Option Addr) (oc:Nat) (az:List (TT × Value)) (os:List (List (TT × Value) × (TT × Value))):Prop where
 c7:W.cell? ⟨B,7,none⟩=some (.slice ao az.length ac)
 c8:W.cell? ⟨B,8,none⟩=some (.slice oo os.length oc)
 arrs:∀ i,(hi:i<az.length)→∃ b off mn mx,ao=some ⟨b,off,none⟩∧b<n₀∧NineAt W b (off+i*11) az[i].2∧W.cell? ⟨b,off+i*11+9,none⟩=some (.int .i64 mn)∧W.cell? ⟨b,off+i*11+10,none⟩=some (.int .i64 mx)
 objs:∀ k,(hk:k<os.length)→∃ b off ko nK kc fo fc mo nM mc,oo=some ⟨b,off,none⟩∧b<n₀∧(W.cell? ⟨b,off+k*12,none⟩=some (.slice ko nK kc)∧W.cell? ⟨b,off+k*12+1,none⟩=some (.slice fo os[k].1.length fc)∧W.cell? ⟨b,off+k*12+2,none⟩=some (.slice mo nM mc))∧NineAt W b (off+k*12+3) os[k].2.2∧os[k].1.length≤fc∧os[k].1.length≤140737488355328∧
  ∀ j,(hj:j<os[k].1.length)→∃ b2 off2,fo=some ⟨b2,off2,none⟩∧b2<n₀∧NineAt W b2 (off2+j*9) os[k].1[j].2
theorem InTS.keep {W W':World} {n₀ B M:Nat} {ao:Option Addr} {ac:Nat} {oo:Option Addr} {oc:Nat} {az:List (TT × Value)} {os:List (List (TT × Value) × (TT × Value))} (h:InTS W n₀ B ao ac oo oc az os) (hk:KpT n₀ B M W W'):InTS W' n₀ B ao ac oo oc az os:=by
 refine ⟨hk.box _ _ _ (.inl rfl) h.c7,hk.box _ _ _ (.inl rfl) h.c8,fun i hi=> ?_,fun k hk2=> ?_⟩
 · obtain ⟨b,off,mn,mx,e,hb,x,y,z⟩:=h.arrs i hi;exact ⟨b,off,mn,mx,e,hb,x.keep hk.below hb,(hk.below.cell (p:=⟨_,_,_⟩) hb).trans y,(hk.below.cell (p:=⟨_,_,_⟩) hb).trans z⟩
 · obtain ⟨b,off,ko,nK,kc,fo,fc,mo,nM,mc,e,hb,⟨x,y,z⟩,r,l1,l2,hf⟩:=h.objs k hk2;refine ⟨b,off,ko,nK,kc,fo,fc,mo,nM,mc,e,hb,⟨(hk.below.cell (p:=⟨_,_,_⟩) hb).trans x,(hk.below.cell (p:=⟨_,_,_⟩) hb).trans y,(hk.below.cell (p:=⟨_,_,_⟩) hb).trans z⟩,r.keep hk.below hb,l1,l2,fun j hj=> ?_⟩;obtain ⟨b2,off2,e2,hb2,x2⟩:=hf j hj;exact ⟨b2,off2,e2,hb2,x2.keep hk.below hb2⟩
def insT (T:TT):List TT:=T.arrs.map AR.item++T.objs.flatMap fun o=>o.fields++[o.rest]
end Go.Proofs.YtnokkmiaeacogaaGreat
