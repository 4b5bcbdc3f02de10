import Derived.Test.YtbpopnafcpfifaaGreatDoorM22
import Derived.Test.YtbpopnafcpfifaaGreatDoorM21
set_option linter.unusedVariables false
set_option linter.unusedSimpArgs false
namespace Go.Proofs.YtbpopnafcpfifaaGreatDoor
open Go.RowKit Go.Shelf
set_option maxRecDepth 100000
set_option maxHeartbeats 12800000
theorem w_nameEnd (s:ByteArray) (p:Nat) (w:World) (hp:p≤s.size) (hs:s.size≤140737488355328):
 Calls Tryz.prog 30 #[.string s,.int .i64 (p:Int)] w fun e w'=>e= .returned (.int .i64 ((bhP inB s.data.toList p:Nat):Int))∧w'=w:=by
 obtain ⟨l,hl⟩:∃ l,l=s.data.toList:=⟨_,rfl⟩;have HL:Hid (l.length=s.size):=by show _=_;rw [hl];exact q08 s
 have HG:Hid (∀ q (h:q<s.size),l.getD q 0=s[q]):=fun q h=>by rw [hl];exact q0f h
 rw [← hl];clear hl;have HLe:=hQz (fun c u=>q0G c u);have HDi:=hQz (fun c u=>q1w c u);go_enter Tryz.func30,Tryz.ntmps30;go_wp2_with fail
 go_loopw [1] (fun a wr=>∃ q:Nat,q≤s.size∧a= .int .i64 (q:Int)∧Hid (bhP inB l p=bhP inB l q)∧wr=w) (fun a _=>s.size-(intOf a).toNat)
 case atStart=>exact ⟨p,hp,rfl,rfl,rfl⟩
 case round=>
  obtain ⟨q,hq,rfl,HQ,rfl⟩:=hrel;by_cases hlt:q<s.size
  · have hi1:(q:Int)<(s.size:Int):=by omega
    have hi0:(0:Int)≤(q:Int):=by omega
    have hst:=q0L (P:=inB) (l:=l) (p:=q) (by rw [HL.out];exact hlt);have hsp:=q0H (P:=inB) (l:=l) (p:=q) (by rw [HL.out];exact hlt);rw [HG.out q hlt] at hst hsp;have HST0:Hid (inB s[q]=true→bhP inB l q=bhP inB l (q+1)):=hst;have HSP0:Hid (inB s[q]=false→bhP inB l q=q):=hsp;have HL1:=hQz (fun u=>HLe.out s[q] u);have HL2:=hQz (fun u=>HDi.out s[q] u);clear hst hsp
    cases h1:leB s[q] with
    | true=>
     rw [h1] at HL1;have HST:=hQz (HST0.out (by unfold inB;rw [h1];rfl));clear h1;go_wp2_with fail;refine (HL1.out _).mono ?_;rintro e w1 ⟨rfl,hw1⟩;obtain rfl:=hw1.symm;go_wp2_with fail;go_roundw
     case rel=>exact ⟨q+1,by omega,by go_num,HQ.out.trans HST.out,by first|rfl|trivial⟩
     case measure=>simp [intOf];omega
    | false=>
     rw [h1] at HL1
     cases h2:dgB s[q] with
     | true=>
      rw [h2] at HL2;have HST:=hQz (HST0.out (by unfold inB;rw [h1,h2];rfl));clear h1 h2;go_wp2_with fail;refine (HL1.out _).mono ?_;rintro e w1 ⟨rfl,hw1⟩;obtain rfl:=hw1.symm;go_wp2_with fail;refine (HL2.out _).mono ?_;rintro e w1 ⟨rfl,hw1⟩;obtain rfl:=hw1.symm;go_wp2_with fail;go_roundw
      case rel=>exact ⟨q+1,by omega,by go_num,HQ.out.trans HST.out,by first|rfl|trivial⟩
      case measure=>simp [intOf];omega
     | false=>
      rw [h2] at HL2;have HSP:=hQz (HQ.out.trans (HSP0.out (by unfold inB;rw [h1,h2];rfl)));clear h1 h2;go_wp2_with fail;refine (HL1.out _).mono ?_;rintro e w1 ⟨rfl,hw1⟩;obtain rfl:=hw1.symm;go_wp2_with fail;refine (HL2.out _).mono ?_;rintro e w1 ⟨rfl,hw1⟩;obtain rfl:=hw1.symm;go_wp2_with fail;go_ret;exact ⟨by rw [HSP.out];first|done|rfl,rfl⟩
  · have hi1:¬ (q:Int)<(s.size:Int):=by omega
    have HSP:Hid (bhP inB l p=q):=by
     show _=_;rw [HQ.out,show q=l.length by rw [HL.out];omega,q1M]
    go_wp2_with fail;go_ret;exact ⟨by rw [HSP.out];first|done|rfl,rfl⟩
theorem w_numEnd (s:ByteArray) (p:Nat) (w:World) (hp:p≤s.size) (hs:s.size≤140737488355328):
 Calls Tryz.prog 33 #[.string s,.int .i64 (p:Int)] w fun e w'=>e= .returned (.int .i64 ((bhP nuB s.data.toList p:Nat):Int))∧w'=w:=by
 obtain ⟨l,hl⟩:∃ l,l=s.data.toList:=⟨_,rfl⟩;have HL:Hid (l.length=s.size):=by show _=_;rw [hl];exact q08 s
 have HG:Hid (∀ q (h:q<s.size),l.getD q 0=s[q]):=fun q h=>by rw [hl];exact q0f h
 rw [← hl];clear hl;have HLe:=hQz (fun c u=>q0G c u);have HDi:=hQz (fun c u=>q1w c u);go_enter Tryz.func33,Tryz.ntmps33;go_wp2_with fail
 go_loopw [1] (fun a wr=>∃ q:Nat,q≤s.size∧a= .int .i64 (q:Int)∧Hid (bhP nuB l p=bhP nuB l q)∧wr=w) (fun a _=>s.size-(intOf a).toNat)
 case atStart=>exact ⟨p,hp,rfl,rfl,rfl⟩
 case round=>
  obtain ⟨q,hq,rfl,HQ,rfl⟩:=hrel;by_cases hlt:q<s.size
  · have hi1:(q:Int)<(s.size:Int):=by omega
    have hi0:(0:Int)≤(q:Int):=by omega
    have hst:=q0L (P:=nuB) (l:=l) (p:=q) (by rw [HL.out];exact hlt);have hsp:=q0H (P:=nuB) (l:=l) (p:=q) (by rw [HL.out];exact hlt);rw [HG.out q hlt] at hst hsp;have HST0:Hid (nuB s[q]=true→bhP nuB l q=bhP nuB l (q+1)):=hst;have HSP0:Hid (nuB s[q]=false→bhP nuB l q=q):=hsp;have HL1:=hQz (fun u=>HLe.out s[q] u);have HL2:=hQz (fun u=>HDi.out s[q] u);clear hst hsp
    cases h1:leB s[q] with
    | true=>
     rw [h1] at HL1;have HST:=hQz (HST0.out (by unfold nuB inB;rw [h1];rfl));clear h1;go_wp2_with fail;refine (HL1.out _).mono ?_;rintro e w1 ⟨rfl,hw1⟩;obtain rfl:=hw1.symm;go_wp2_with fail;go_roundw
     case rel=>exact ⟨q+1,by omega,by go_num,HQ.out.trans HST.out,by first|rfl|trivial⟩
     case measure=>simp [intOf];omega
    | false=>
     rw [h1] at HL1
     cases h2:dgB s[q] with
     | true=>
      rw [h2] at HL2;have HST:=hQz (HST0.out (by unfold nuB inB;rw [h1,h2];rfl));clear h1 h2;go_wp2_with fail;refine (HL1.out _).mono ?_;rintro e w1 ⟨rfl,hw1⟩;obtain rfl:=hw1.symm;go_wp2_with fail;refine (HL2.out _).mono ?_;rintro e w1 ⟨rfl,hw1⟩;obtain rfl:=hw1.symm;go_wp2_with fail;go_roundw
      case rel=>exact ⟨q+1,by omega,by go_num,HQ.out.trans HST.out,by first|rfl|trivial⟩
      case measure=>simp [intOf];omega
     | false=>
      rw [h2] at HL2;by_cases h46:s[q].toNat=46
      · have HST:=hQz (HST0.out (by unfold nuB inB;rw [h1,h2,decide_eq_true h46];rfl));have h46i:((s[q].toNat:Nat):Int)=46:=by omega
        rw [h46i] at HL1 HL2;clear h1 h2 h46;go_wp2_with fail;refine (HL1.out _).mono ?_;rintro e w1 ⟨rfl,hw1⟩;obtain rfl:=hw1.symm;go_wp2_with fail;refine (HL2.out _).mono ?_;rintro e w1 ⟨rfl,hw1⟩;obtain rfl:=hw1.symm;go_wp2_with fail;go_roundw
        case rel=>exact ⟨q+1,by omega,by go_num,HQ.out.trans HST.out,by first|rfl|trivial⟩
        case measure=>simp [intOf];omega
      · have HSP:=hQz (HQ.out.trans (HSP0.out (by unfold nuB inB;rw [h1,h2,decide_eq_false h46];rfl)));have h46i:¬ ((s[q].toNat:Nat):Int)=46:=by omega
        clear h1 h2 h46;go_wp2_with fail;refine (HL1.out _).mono ?_;rintro e w1 ⟨rfl,hw1⟩;obtain rfl:=hw1.symm;go_wp2_with fail;refine (HL2.out _).mono ?_;rintro e w1 ⟨rfl,hw1⟩;obtain rfl:=hw1.symm;go_wp2_with fail;go_ret;exact ⟨by rw [HSP.out];first|done|rfl,rfl⟩
  · have hi1:¬ (q:Int)<(s.size:Int):=by omega
    have HSP:Hid (bhP nuB l p=q):=by
     show _=_;rw [HQ.out,show q=l.length by rw [HL.out];omega,q1M]
    go_wp2_with fail;go_ret;exact ⟨by rw [HSP.out];first|done|rfl,rfl⟩
theorem mk_two {m:List UInt8} (h:mk2L.contains m=true):m.length=2:=by
 have h1:∀ x∈mk2L,x.length=2:=by decide
 exact h1 m (List.contains_iff_mem.1 h)
theorem mk_one {m:List UInt8} (h:mk1L.contains m=true):m.length=1:=by
 have h1:∀ x∈mk1L,x.length=1:=by decide
 exact h1 m (List.contains_iff_mem.1 h)
theorem mkB_or (m:List UInt8):mkB m=(m==[47,47,61]||(mk2L.contains m||mk1L.contains m)):=by
 have e:mkL=[47,47,61]::(mk2L++mk1L):=rfl;unfold mkB;rw [e,List.contains_cons,List.contains_append]
theorem mkB3 {m:List UInt8} (h:m.length=3):mkB m=(m==[47,47,61]):=by
 rw [mkB_or]
 cases h2:mk2L.contains m with
 | true=>have:=mk_two h2;omega
 | false=>
  cases h1:mk1L.contains m with
  | true=>have:=mk_one h1;omega
  | false=>simp
theorem mkB2 {m:List UInt8} (h:m.length=2):mkB m=mk2L.contains m:=by
 rw [mkB_or];have h3:(m==[47,47,61])=false:=by rw [bqZ];intro e;rw [e] at h;simp at h
 rw [h3]
 cases h1:mk1L.contains m with
 | true=>have:=mk_one h1;omega
 | false=>simp
theorem mkB1 {m:List UInt8} (h:m.length=1):mkB m=mk1L.contains m:=by
 rw [mkB_or];have h3:(m==[47,47,61])=false:=by rw [bqZ];intro e;rw [e] at h;simp at h
 rw [h3]
 cases h2:mk2L.contains m with
 | true=>have:=mk_two h2;omega
 | false=>simp
def rmk (l:List UInt8) (p:Nat):Nat:=
 if p+3≤l.length∧(l.drop p).take 3=[47,47,61] then 3 else if p+2≤l.length∧mk2L.contains ((l.drop p).take 2)=true then 2 else if mk1L.contains [l.getD p 0]=true then 1 else 0
theorem take_one {l:List UInt8} {p:Nat} (hp:p<l.length):(l.drop p).take 1=[l.getD p 0]:=by rw [q0M hp];rfl
theorem rmk_eq {l:List UInt8} {p:Nat} (hp:p<l.length):(mkW l p).length=rmk l p∧mkW l p=(l.drop p).take (rmk l p):=by
 have hlen:∀ k,p+k≤l.length→((l.drop p).take k).length=k:=fun k hk=>by rw [List.length_take,List.length_drop];omega
 have e0:mkW l p=mkK l p (min 3 (l.length-p)):=mkK_min l p;unfold rmk;have t1:=take_one hp;have b1:=mkB1 (hlen 1 (by omega));rw [t1] at b1
 have k1:mkK l p 1=if mk1L.contains [l.getD p 0]=true then (l.drop p).take 1 else []:=by
  rw [mkK,t1,b1];rfl
 by_cases h2:p+2≤l.length
 · have b2:=mkB2 (hlen 2 h2);have k2:mkK l p 2=if mk2L.contains ((l.drop p).take 2)=true then (l.drop p).take 2 else mkK l p 1:=by rw [mkK,b2]
   by_cases h3:p+3≤l.length
   · have b3:=mkB3 (hlen 3 h3)
     have k3:mkK l p 3=if (l.drop p).take 3=[47,47,61] then (l.drop p).take 3 else mkK l p 2:=by
      rw [mkK,b3];by_cases h:(l.drop p).take 3=[47,47,61]
      · rw [if_pos h,if_pos (by rw [h];rfl)]
      · rw [if_neg h,if_neg (by rw [bqZ.2 h];decide)]
     rw [e0,show min 3 (l.length-p)=3 by omega,k3];by_cases h:(l.drop p).take 3=[47,47,61]
     · rw [if_pos h,if_pos ⟨h3,h⟩];exact ⟨hlen 3 h3,rfl⟩
     · rw [if_neg h,if_neg (fun g=>h g.2),k2];by_cases g:mk2L.contains ((l.drop p).take 2)=true
       · rw [if_pos g,if_pos ⟨h2,g⟩];exact ⟨hlen 2 h2,rfl⟩
       · rw [if_neg g,if_neg (fun q=>g q.2),k1]
         split
         · exact ⟨hlen 1 (by omega),rfl⟩
         · exact ⟨rfl,rfl⟩
   · rw [e0,show min 3 (l.length-p)=2 by omega,if_neg (fun g=>h3 g.1),k2];by_cases g:mk2L.contains ((l.drop p).take 2)=true
     · rw [if_pos g,if_pos ⟨h2,g⟩];exact ⟨hlen 2 h2,rfl⟩
     · rw [if_neg g,if_neg (fun q=>g q.2),k1]
       split
       · exact ⟨hlen 1 (by omega),rfl⟩
       · exact ⟨rfl,rfl⟩
 · rw [e0,show min 3 (l.length-p)=1 by omega,if_neg (fun g=>by omega),if_neg (fun g=>h2 g.1),k1]
   split
   · exact ⟨hlen 1 (by omega),rfl⟩
   · exact ⟨rfl,rfl⟩
def rk1 (c:UInt8):Nat:=if mk1L.contains [c]=true then 1 else 0
theorem w_rmark1 (s:ByteArray) (p:Nat) (w:World) (hp:p<s.size) (hs:s.size≤140737488355328) (H3:¬ (p:Int)+3≤(s.size:Int)∨((p:Int)+3≤(s.size:Int)∧((s.extract p (p+3)).toList==[47,47,61])=false)) (H2:¬ (p:Int)+2≤(s.size:Int)∨((p:Int)+2≤(s.size:Int)∧((s.extract p (p+2)).toList==[46,46])=false∧((s.extract p (p+2)).toList==[124,61])=false∧((s.extract p (p+2)).toList==[43,61])=false∧((s.extract p (p+2)).toList==[45,61])=false∧((s.extract p (p+2)).toList==[42,61])=false∧((s.extract p (p+2)).toList==[47,61])=false∧((s.extract p (p+2)).toList==[37,61])=false∧((s.extract p (p+2)).toList==[61,61])=false∧((s.extract p (p+2)).toList==[33,61])=false∧((s.extract p (p+2)).toList==[60,61])=false∧((s.extract p (p+2)).toList==[62,61])=false∧((s.extract p (p+2)).toList==[47,47])=false)):
 Calls Tryz.prog 35 #[.string s,.int .i64 (p:Int)] w fun e w'=>e= .returned (.int .i64 ((rk1 s[p]:Nat):Int))∧w'=w:=by
 have hi0:(0:Int)≤(p:Int):=by omega
 have hi1:(p:Int)<(s.size:Int):=by omega
 have hj2:(p:Int)≤(p:Int)+2:=by omega
 have hj3:(p:Int)≤(p:Int)+3:=by omega
 rcases H3 with H3|⟨H3,g3⟩ <;> rcases H2 with H2|⟨H2,g2a,g2b,g2c,g2d,g2e,g2f,g2g,g2h,g2i,g2j,g2k,g2l⟩
 all_goals
  by_cases h0:s[p].toNat=124
  · have hc:s[p]=124:=by apply UInt8.toNat_inj.1;exact h0
    have HT:Hid (rk1 s[p]=1):=by show _=_;rw [hc];decide
    have hci:((s[p].toNat:Nat):Int)=124:=by omega
    clear hc h0;go_enter Tryz.func35,Tryz.ntmps35;go_wp2_with fail;go_ret;exact ⟨by rw [HT.out];first|done|rfl,rfl⟩
  have i0:¬ ((s[p].toNat:Nat):Int)=124:=by omega
  by_cases h1:s[p].toNat=44
  · have hc:s[p]=44:=by apply UInt8.toNat_inj.1;exact h1
    have HT:Hid (rk1 s[p]=1):=by show _=_;rw [hc];decide
    have hci:((s[p].toNat:Nat):Int)=44:=by omega
    clear hc h1;go_enter Tryz.func35,Tryz.ntmps35;go_wp2_with fail;go_ret;exact ⟨by rw [HT.out];first|done|rfl,rfl⟩
  have i1:¬ ((s[p].toNat:Nat):Int)=44:=by omega
  by_cases h2:s[p].toNat=61
  · have hc:s[p]=61:=by apply UInt8.toNat_inj.1;exact h2
    have HT:Hid (rk1 s[p]=1):=by show _=_;rw [hc];decide
    have hci:((s[p].toNat:Nat):Int)=61:=by omega
    clear hc h2;go_enter Tryz.func35,Tryz.ntmps35;go_wp2_with fail;go_ret;exact ⟨by rw [HT.out];first|done|rfl,rfl⟩
  have i2:¬ ((s[p].toNat:Nat):Int)=61:=by omega
  by_cases h3:s[p].toNat=60
  · have hc:s[p]=60:=by apply UInt8.toNat_inj.1;exact h3
    have HT:Hid (rk1 s[p]=1):=by show _=_;rw [hc];decide
    have hci:((s[p].toNat:Nat):Int)=60:=by omega
    clear hc h3;go_enter Tryz.func35,Tryz.ntmps35;go_wp2_with fail;go_ret;exact ⟨by rw [HT.out];first|done|rfl,rfl⟩
  have i3:¬ ((s[p].toNat:Nat):Int)=60:=by omega
  by_cases h4:s[p].toNat=62
  · have hc:s[p]=62:=by apply UInt8.toNat_inj.1;exact h4
    have HT:Hid (rk1 s[p]=1):=by show _=_;rw [hc];decide
    have hci:((s[p].toNat:Nat):Int)=62:=by omega
    clear hc h4;go_enter Tryz.func35,Tryz.ntmps35;go_wp2_with fail;go_ret;exact ⟨by rw [HT.out];first|done|rfl,rfl⟩
  have i4:¬ ((s[p].toNat:Nat):Int)=62:=by omega
  by_cases h5:s[p].toNat=43
  · have hc:s[p]=43:=by apply UInt8.toNat_inj.1;exact h5
    have HT:Hid (rk1 s[p]=1):=by show _=_;rw [hc];decide
    have hci:((s[p].toNat:Nat):Int)=43:=by omega
    clear hc h5;go_enter Tryz.func35,Tryz.ntmps35;go_wp2_with fail;go_ret;exact ⟨by rw [HT.out];first|done|rfl,rfl⟩
  have i5:¬ ((s[p].toNat:Nat):Int)=43:=by omega
  by_cases h6:s[p].toNat=45
  · have hc:s[p]=45:=by apply UInt8.toNat_inj.1;exact h6
    have HT:Hid (rk1 s[p]=1):=by show _=_;rw [hc];decide
    have hci:((s[p].toNat:Nat):Int)=45:=by omega
    clear hc h6;go_enter Tryz.func35,Tryz.ntmps35;go_wp2_with fail;go_ret;exact ⟨by rw [HT.out];first|done|rfl,rfl⟩
  have i6:¬ ((s[p].toNat:Nat):Int)=45:=by omega
  by_cases h7:s[p].toNat=42
  · have hc:s[p]=42:=by apply UInt8.toNat_inj.1;exact h7
    have HT:Hid (rk1 s[p]=1):=by show _=_;rw [hc];decide
    have hci:((s[p].toNat:Nat):Int)=42:=by omega
    clear hc h7;go_enter Tryz.func35,Tryz.ntmps35;go_wp2_with fail;go_ret;exact ⟨by rw [HT.out];first|done|rfl,rfl⟩
  have i7:¬ ((s[p].toNat:Nat):Int)=42:=by omega
  by_cases h8:s[p].toNat=47
  · have hc:s[p]=47:=by apply UInt8.toNat_inj.1;exact h8
    have HT:Hid (rk1 s[p]=1):=by show _=_;rw [hc];decide
    have hci:((s[p].toNat:Nat):Int)=47:=by omega
    clear hc h8;go_enter Tryz.func35,Tryz.ntmps35;go_wp2_with fail;go_ret;exact ⟨by rw [HT.out];first|done|rfl,rfl⟩
  have i8:¬ ((s[p].toNat:Nat):Int)=47:=by omega
  by_cases h9:s[p].toNat=37
  · have hc:s[p]=37:=by apply UInt8.toNat_inj.1;exact h9
    have HT:Hid (rk1 s[p]=1):=by show _=_;rw [hc];decide
    have hci:((s[p].toNat:Nat):Int)=37:=by omega
    clear hc h9;go_enter Tryz.func35,Tryz.ntmps35;go_wp2_with fail;go_ret;exact ⟨by rw [HT.out];first|done|rfl,rfl⟩
  have i9:¬ ((s[p].toNat:Nat):Int)=37:=by omega
  by_cases h10:s[p].toNat=46
  · have hc:s[p]=46:=by apply UInt8.toNat_inj.1;exact h10
    have HT:Hid (rk1 s[p]=1):=by show _=_;rw [hc];decide
    have hci:((s[p].toNat:Nat):Int)=46:=by omega
    clear hc h10;go_enter Tryz.func35,Tryz.ntmps35;go_wp2_with fail;go_ret;exact ⟨by rw [HT.out];first|done|rfl,rfl⟩
  have i10:¬ ((s[p].toNat:Nat):Int)=46:=by omega
  by_cases h11:s[p].toNat=40
  · have hc:s[p]=40:=by apply UInt8.toNat_inj.1;exact h11
    have HT:Hid (rk1 s[p]=1):=by show _=_;rw [hc];decide
    have hci:((s[p].toNat:Nat):Int)=40:=by omega
    clear hc h11;go_enter Tryz.func35,Tryz.ntmps35;go_wp2_with fail;go_ret;exact ⟨by rw [HT.out];first|done|rfl,rfl⟩
  have i11:¬ ((s[p].toNat:Nat):Int)=40:=by omega
  by_cases h12:s[p].toNat=41
  · have hc:s[p]=41:=by apply UInt8.toNat_inj.1;exact h12
    have HT:Hid (rk1 s[p]=1):=by show _=_;rw [hc];decide
    have hci:((s[p].toNat:Nat):Int)=41:=by omega
    clear hc h12;go_enter Tryz.func35,Tryz.ntmps35;go_wp2_with fail;go_ret;exact ⟨by rw [HT.out];first|done|rfl,rfl⟩
  have i12:¬ ((s[p].toNat:Nat):Int)=41:=by omega
  by_cases h13:s[p].toNat=91
  · have hc:s[p]=91:=by apply UInt8.toNat_inj.1;exact h13
    have HT:Hid (rk1 s[p]=1):=by show _=_;rw [hc];decide
    have hci:((s[p].toNat:Nat):Int)=91:=by omega
    clear hc h13;go_enter Tryz.func35,Tryz.ntmps35;go_wp2_with fail;go_ret;exact ⟨by rw [HT.out];first|done|rfl,rfl⟩
  have i13:¬ ((s[p].toNat:Nat):Int)=91:=by omega
  by_cases h14:s[p].toNat=93
  · have hc:s[p]=93:=by apply UInt8.toNat_inj.1;exact h14
    have HT:Hid (rk1 s[p]=1):=by show _=_;rw [hc];decide
    have hci:((s[p].toNat:Nat):Int)=93:=by omega
    clear hc h14;go_enter Tryz.func35,Tryz.ntmps35;go_wp2_with fail;go_ret;exact ⟨by rw [HT.out];first|done|rfl,rfl⟩
  have i14:¬ ((s[p].toNat:Nat):Int)=93:=by omega
  by_cases h15:s[p].toNat=123
  · have hc:s[p]=123:=by apply UInt8.toNat_inj.1;exact h15
    have HT:Hid (rk1 s[p]=1):=by show _=_;rw [hc];decide
    have hci:((s[p].toNat:Nat):Int)=123:=by omega
    clear hc h15;go_enter Tryz.func35,Tryz.ntmps35;go_wp2_with fail;go_ret;exact ⟨by rw [HT.out];first|done|rfl,rfl⟩
  have i15:¬ ((s[p].toNat:Nat):Int)=123:=by omega
  by_cases h16:s[p].toNat=125
  · have hc:s[p]=125:=by apply UInt8.toNat_inj.1;exact h16
    have HT:Hid (rk1 s[p]=1):=by show _=_;rw [hc];decide
    have hci:((s[p].toNat:Nat):Int)=125:=by omega
    clear hc h16;go_enter Tryz.func35,Tryz.ntmps35;go_wp2_with fail;go_ret;exact ⟨by rw [HT.out];first|done|rfl,rfl⟩
  have i16:¬ ((s[p].toNat:Nat):Int)=125:=by omega
  by_cases h17:s[p].toNat=58
  · have hc:s[p]=58:=by apply UInt8.toNat_inj.1;exact h17
    have HT:Hid (rk1 s[p]=1):=by show _=_;rw [hc];decide
    have hci:((s[p].toNat:Nat):Int)=58:=by omega
    clear hc h17;go_enter Tryz.func35,Tryz.ntmps35;go_wp2_with fail;go_ret;exact ⟨by rw [HT.out];first|done|rfl,rfl⟩
  have i17:¬ ((s[p].toNat:Nat):Int)=58:=by omega
  by_cases h18:s[p].toNat=59
  · have hc:s[p]=59:=by apply UInt8.toNat_inj.1;exact h18
    have HT:Hid (rk1 s[p]=1):=by show _=_;rw [hc];decide
    have hci:((s[p].toNat:Nat):Int)=59:=by omega
    clear hc h18;go_enter Tryz.func35,Tryz.ntmps35;go_wp2_with fail;go_ret;exact ⟨by rw [HT.out];first|done|rfl,rfl⟩
  have i18:¬ ((s[p].toNat:Nat):Int)=59:=by omega
  by_cases h19:s[p].toNat=63
  · have hc:s[p]=63:=by apply UInt8.toNat_inj.1;exact h19
    have HT:Hid (rk1 s[p]=1):=by show _=_;rw [hc];decide
    have hci:((s[p].toNat:Nat):Int)=63:=by omega
    clear hc h19;go_enter Tryz.func35,Tryz.ntmps35;go_wp2_with fail;go_ret;exact ⟨by rw [HT.out];first|done|rfl,rfl⟩
  have i19:¬ ((s[p].toNat:Nat):Int)=63:=by omega
  have HT:Hid (rk1 s[p]=0):=by
   show _=_;unfold rk1;rw [if_neg];intro h;have hq:=List.contains_iff_mem.1 h;simp only [mk1L,List.mem_cons,List.cons.injEq,and_true,List.mem_nil_iff,or_false] at hq;rcases hq with hq|hq|hq|hq|hq|hq|hq|hq|hq|hq|hq|hq|hq|hq|hq|hq|hq|hq|hq|hq
   all_goals first|exact h0 (by rw [hq];rfl)|exact h1 (by rw [hq];rfl)|exact h2 (by rw [hq];rfl)|exact h3 (by rw [hq];rfl)|exact h4 (by rw [hq];rfl)|exact h5 (by rw [hq];rfl)|exact h6 (by rw [hq];rfl)|exact h7 (by rw [hq];rfl)|exact h8 (by rw [hq];rfl)|exact h9 (by rw [hq];rfl)|exact h10 (by rw [hq];rfl)|exact h11 (by rw [hq];rfl)|exact h12 (by rw [hq];rfl)|exact h13 (by rw [hq];rfl)|exact h14 (by rw [hq];rfl)|exact h15 (by rw [hq];rfl)|exact h16 (by rw [hq];rfl)|exact h17 (by rw [hq];rfl)|exact h18 (by rw [hq];rfl)|exact h19 (by rw [hq];rfl)
  clear h0 h1 h2 h3 h4 h5 h6 h7 h8 h9 h10 h11 h12 h13 h14 h15 h16 h17 h18 h19;go_enter Tryz.func35,Tryz.ntmps35;go_wp2_with fail
  all_goals go_ret
  all_goals exact ⟨by rw [HT.out];first|done|rfl,rfl⟩
theorem ext_take (s:ByteArray) (p k:Nat) (hk:p+k≤s.size):(s.extract p (p+k)).toList=(s.data.toList.drop p).take k:=by
 rw [Lib.toList_data,q0P s p (p+k) hk];unfold cut;rw [show p+k-p=k by omega]
theorem w_rmark (s:ByteArray) (p:Nat) (w:World) (hp:p<s.size) (hs:s.size≤140737488355328):
 Calls Tryz.prog 35 #[.string s,.int .i64 (p:Int)] w fun e w'=>e= .returned (.int .i64 ((rmk s.data.toList p:Nat):Int))∧w'=w:=by
 have hi0:(0:Int)≤(p:Int):=by omega
 have hj2:(p:Int)≤(p:Int)+2:=by omega
 have hj3:(p:Int)≤(p:Int)+3:=by omega
 have hi1:(p:Int)<(s.size:Int):=by omega
 have hpl:p<s.data.toList.length:=by rw [q08];exact hp
 by_cases h3:p+3≤s.size∧(s.data.toList.drop p).take 3=[47,47,61]
 · have HT:Hid (rmk s.data.toList p=3):=by show _=_;unfold rmk;rw [q08,if_pos h3]
   have H3:(p:Int)+3≤(s.size:Int):=by omega
   have g3:((s.extract p (p+3)).toList==[47,47,61])=true:=by rw [ext_take s p 3 h3.1,h3.2];rfl
   clear h3;go_enter Tryz.func35,Tryz.ntmps35;go_wp2_with fail;go_ret;exact ⟨by rw [HT.out];first|done|rfl,rfl⟩
 have H3:¬ (p:Int)+3≤(s.size:Int)∨((p:Int)+3≤(s.size:Int)∧((s.extract p (p+3)).toList==[47,47,61])=false):=by
  by_cases h:p+3≤s.size
  · right
    refine ⟨by omega,?_⟩;rw [ext_take s p 3 h,bqZ];exact fun e=>h3 ⟨h,e⟩
  · left;omega
 by_cases h2:p+2≤s.size
 · have H2:(p:Int)+2≤(s.size:Int):=by omega
   have HX:=ext_take s p 2 h2;by_cases q0:(s.data.toList.drop p).take 2=[46,46]
   · have HT:Hid (rmk s.data.toList p=2):=by show _=_;unfold rmk;rw [q08,if_neg h3,if_pos ⟨h2,by rw [q0];decide⟩]
     have g0:((s.extract p (p+2)).toList==[46,46])=true:=by rw [HX,q0];rfl
     clear q0 h3 HX;rcases H3 with H3|⟨H3,g3⟩
     · skip
       go_enter Tryz.func35,Tryz.ntmps35;go_wp2_with fail;go_ret;exact ⟨by rw [HT.out];first|done|rfl,rfl⟩
     · skip
       go_enter Tryz.func35,Tryz.ntmps35;go_wp2_with fail;go_ret;exact ⟨by rw [HT.out];first|done|rfl,rfl⟩
   have g0:((s.extract p (p+2)).toList==[46,46])=false:=by rw [HX,bqZ];exact q0
   by_cases q1:(s.data.toList.drop p).take 2=[124,61]
   · have HT:Hid (rmk s.data.toList p=2):=by show _=_;unfold rmk;rw [q08,if_neg h3,if_pos ⟨h2,by rw [q1];decide⟩]
     have g1:((s.extract p (p+2)).toList==[124,61])=true:=by rw [HX,q1];rfl
     clear q1 h3 HX;rcases H3 with H3|⟨H3,g3⟩
     · skip
       go_enter Tryz.func35,Tryz.ntmps35;go_wp2_with fail;go_ret;exact ⟨by rw [HT.out];first|done|rfl,rfl⟩
     · skip
       go_enter Tryz.func35,Tryz.ntmps35;go_wp2_with fail;go_ret;exact ⟨by rw [HT.out];first|done|rfl,rfl⟩
   have g1:((s.extract p (p+2)).toList==[124,61])=false:=by rw [HX,bqZ];exact q1
   by_cases q2:(s.data.toList.drop p).take 2=[43,61]
   · have HT:Hid (rmk s.data.toList p=2):=by show _=_;unfold rmk;rw [q08,if_neg h3,if_pos ⟨h2,by rw [q2];decide⟩]
     have g2:((s.extract p (p+2)).toList==[43,61])=true:=by rw [HX,q2];rfl
     clear q2 h3 HX;rcases H3 with H3|⟨H3,g3⟩
     · skip
       go_enter Tryz.func35,Tryz.ntmps35;go_wp2_with fail;go_ret;exact ⟨by rw [HT.out];first|done|rfl,rfl⟩
     · skip
       go_enter Tryz.func35,Tryz.ntmps35;go_wp2_with fail;go_ret;exact ⟨by rw [HT.out];first|done|rfl,rfl⟩
   have g2:((s.extract p (p+2)).toList==[43,61])=false:=by rw [HX,bqZ];exact q2
   by_cases q3:(s.data.toList.drop p).take 2=[45,61]
   · have HT:Hid (rmk s.data.toList p=2):=by show _=_;unfold rmk;rw [q08,if_neg h3,if_pos ⟨h2,by rw [q3];decide⟩]
     have g3:((s.extract p (p+2)).toList==[45,61])=true:=by rw [HX,q3];rfl
     clear q3 h3 HX;rcases H3 with H3|⟨H3,g3⟩
     · skip
       go_enter Tryz.func35,Tryz.ntmps35;go_wp2_with fail;go_ret;exact ⟨by rw [HT.out];first|done|rfl,rfl⟩
     · skip
       go_enter Tryz.func35,Tryz.ntmps35;go_wp2_with fail;go_ret;exact ⟨by rw [HT.out];first|done|rfl,rfl⟩
   have g3:((s.extract p (p+2)).toList==[45,61])=false:=by rw [HX,bqZ];exact q3
   by_cases q4:(s.data.toList.drop p).take 2=[42,61]
   · have HT:Hid (rmk s.data.toList p=2):=by show _=_;unfold rmk;rw [q08,if_neg h3,if_pos ⟨h2,by rw [q4];decide⟩]
     have g4:((s.extract p (p+2)).toList==[42,61])=true:=by rw [HX,q4];rfl
     clear q4 h3 HX;rcases H3 with H3|⟨H3,g3⟩
     · skip
       go_enter Tryz.func35,Tryz.ntmps35;go_wp2_with fail;go_ret;exact ⟨by rw [HT.out];first|done|rfl,rfl⟩
     · skip
       go_enter Tryz.func35,Tryz.ntmps35;go_wp2_with fail;go_ret;exact ⟨by rw [HT.out];first|done|rfl,rfl⟩
   have g4:((s.extract p (p+2)).toList==[42,61])=false:=by rw [HX,bqZ];exact q4
   by_cases q5:(s.data.toList.drop p).take 2=[47,61]
   · have HT:Hid (rmk s.data.toList p=2):=by show _=_;unfold rmk;rw [q08,if_neg h3,if_pos ⟨h2,by rw [q5];decide⟩]
     have g5:((s.extract p (p+2)).toList==[47,61])=true:=by rw [HX,q5];rfl
     clear q5 h3 HX;rcases H3 with H3|⟨H3,g3⟩
     · skip
       go_enter Tryz.func35,Tryz.ntmps35;go_wp2_with fail;go_ret;exact ⟨by rw [HT.out];first|done|rfl,rfl⟩
     · skip
       go_enter Tryz.func35,Tryz.ntmps35;go_wp2_with fail;go_ret;exact ⟨by rw [HT.out];first|done|rfl,rfl⟩
   have g5:((s.extract p (p+2)).toList==[47,61])=false:=by rw [HX,bqZ];exact q5
   by_cases q6:(s.data.toList.drop p).take 2=[37,61]
   · have HT:Hid (rmk s.data.toList p=2):=by show _=_;unfold rmk;rw [q08,if_neg h3,if_pos ⟨h2,by rw [q6];decide⟩]
     have g6:((s.extract p (p+2)).toList==[37,61])=true:=by rw [HX,q6];rfl
     clear q6 h3 HX;rcases H3 with H3|⟨H3,g3⟩
     · skip
       go_enter Tryz.func35,Tryz.ntmps35;go_wp2_with fail;go_ret;exact ⟨by rw [HT.out];first|done|rfl,rfl⟩
     · skip
       go_enter Tryz.func35,Tryz.ntmps35;go_wp2_with fail;go_ret;exact ⟨by rw [HT.out];first|done|rfl,rfl⟩
   have g6:((s.extract p (p+2)).toList==[37,61])=false:=by rw [HX,bqZ];exact q6
   by_cases q7:(s.data.toList.drop p).take 2=[61,61]
   · have HT:Hid (rmk s.data.toList p=2):=by show _=_;unfold rmk;rw [q08,if_neg h3,if_pos ⟨h2,by rw [q7];decide⟩]
     have g7:((s.extract p (p+2)).toList==[61,61])=true:=by rw [HX,q7];rfl
     clear q7 h3 HX;rcases H3 with H3|⟨H3,g3⟩
     · skip
       go_enter Tryz.func35,Tryz.ntmps35;go_wp2_with fail;go_ret;exact ⟨by rw [HT.out];first|done|rfl,rfl⟩
     · skip
       go_enter Tryz.func35,Tryz.ntmps35;go_wp2_with fail;go_ret;exact ⟨by rw [HT.out];first|done|rfl,rfl⟩
   have g7:((s.extract p (p+2)).toList==[61,61])=false:=by rw [HX,bqZ];exact q7
   by_cases q8:(s.data.toList.drop p).take 2=[33,61]
   · have HT:Hid (rmk s.data.toList p=2):=by show _=_;unfold rmk;rw [q08,if_neg h3,if_pos ⟨h2,by rw [q8];decide⟩]
     have g8:((s.extract p (p+2)).toList==[33,61])=true:=by rw [HX,q8];rfl
     clear q8 h3 HX;rcases H3 with H3|⟨H3,g3⟩
     · skip
       go_enter Tryz.func35,Tryz.ntmps35;go_wp2_with fail;go_ret;exact ⟨by rw [HT.out];first|done|rfl,rfl⟩
     · skip
       go_enter Tryz.func35,Tryz.ntmps35;go_wp2_with fail;go_ret;exact ⟨by rw [HT.out];first|done|rfl,rfl⟩
   have g8:((s.extract p (p+2)).toList==[33,61])=false:=by rw [HX,bqZ];exact q8
   by_cases q9:(s.data.toList.drop p).take 2=[60,61]
   · have HT:Hid (rmk s.data.toList p=2):=by show _=_;unfold rmk;rw [q08,if_neg h3,if_pos ⟨h2,by rw [q9];decide⟩]
     have g9:((s.extract p (p+2)).toList==[60,61])=true:=by rw [HX,q9];rfl
     clear q9 h3 HX;rcases H3 with H3|⟨H3,g3⟩
     · skip
       go_enter Tryz.func35,Tryz.ntmps35;go_wp2_with fail;go_ret;exact ⟨by rw [HT.out];first|done|rfl,rfl⟩
     · skip
       go_enter Tryz.func35,Tryz.ntmps35;go_wp2_with fail;go_ret;exact ⟨by rw [HT.out];first|done|rfl,rfl⟩
   have g9:((s.extract p (p+2)).toList==[60,61])=false:=by rw [HX,bqZ];exact q9
   by_cases q10:(s.data.toList.drop p).take 2=[62,61]
   · have HT:Hid (rmk s.data.toList p=2):=by show _=_;unfold rmk;rw [q08,if_neg h3,if_pos ⟨h2,by rw [q10];decide⟩]
     have g10:((s.extract p (p+2)).toList==[62,61])=true:=by rw [HX,q10];rfl
     clear q10 h3 HX;rcases H3 with H3|⟨H3,g3⟩
     · skip
       go_enter Tryz.func35,Tryz.ntmps35;go_wp2_with fail;go_ret;exact ⟨by rw [HT.out];first|done|rfl,rfl⟩
     · skip
       go_enter Tryz.func35,Tryz.ntmps35;go_wp2_with fail;go_ret;exact ⟨by rw [HT.out];first|done|rfl,rfl⟩
   have g10:((s.extract p (p+2)).toList==[62,61])=false:=by rw [HX,bqZ];exact q10
   by_cases q11:(s.data.toList.drop p).take 2=[47,47]
   · have HT:Hid (rmk s.data.toList p=2):=by show _=_;unfold rmk;rw [q08,if_neg h3,if_pos ⟨h2,by rw [q11];decide⟩]
     have g11:((s.extract p (p+2)).toList==[47,47])=true:=by rw [HX,q11];rfl
     clear q11 h3 HX;rcases H3 with H3|⟨H3,g3⟩
     · skip
       go_enter Tryz.func35,Tryz.ntmps35;go_wp2_with fail;go_ret;exact ⟨by rw [HT.out];first|done|rfl,rfl⟩
     · skip
       go_enter Tryz.func35,Tryz.ntmps35;go_wp2_with fail;go_ret;exact ⟨by rw [HT.out];first|done|rfl,rfl⟩
   have g11:((s.extract p (p+2)).toList==[47,47])=false:=by rw [HX,bqZ];exact q11
   have hno:mk2L.contains ((s.data.toList.drop p).take 2)=false:=by
    simp only [mk2L,List.contains_cons,List.contains_nil,bqZ.2 q0,bqZ.2 q1,bqZ.2 q2,bqZ.2 q3,bqZ.2 q4,bqZ.2 q5,bqZ.2 q6,bqZ.2 q7,bqZ.2 q8,bqZ.2 q9,bqZ.2 q10,bqZ.2 q11,Bool.or_false]
   have h1:=w_rmark1 s p w hp hs H3 (.inr ⟨H2,g0,g1,g2,g3,g4,g5,g6,g7,g8,g9,g10,g11⟩);refine h1.mono (fun e w' h=>⟨?_,h.2⟩);rw [h.1];unfold rmk rk1;rw [q08,if_neg h3,if_neg (show ¬ (p+2≤s.size∧mk2L.contains ((s.data.toList.drop p).take 2)=true) from fun g=>by rw [hno] at g;exact absurd g.2 (by decide)),q0f hp]
 · have h1:=w_rmark1 s p w hp hs H3 (.inl (by omega));refine h1.mono (fun e w' h=>⟨?_,h.2⟩);rw [h.1];unfold rmk rk1;rw [q08,if_neg h3,if_neg (show ¬ (p+2≤s.size∧mk2L.contains ((s.data.toList.drop p).take 2)=true) from fun g=>h2 g.1),q0f hp]
end Go.Proofs.YtbpopnafcpfifaaGreatDoor
