import Derived.Test.YtdjleoglphgdgaaGreatDoorM23
import Derived.Test.YtdjleoglphgdgaaGreatDoorM22
set_option linter.unusedVariables false
set_option linter.unusedSimpArgs false
namespace Go.Proofs.YtdjleoglphgdgaaGreatDoor
open Go.RowKit
set_option maxRecDepth 100000
set_option maxHeartbeats 12800000
theorem w_idle (s:ByteArray) (p:Nat) (w:World) (hp:p≤s.size) (hs:s.size≤140737488355328):
 Calls Tryz.prog 42 #[.string s,.int .i64 (p:Int)] w fun e w'=>e= .returned (.int .i64 ((idW s.data.toList p:Nat):Int))∧w'=w:=by
 have HB1:Hid (∀ q u,q≤s.size→Calls Tryz.prog 94 #[.string s,.int .i64 (q:Int),.func (.func 95) #[] #[]] u fun e w'=>e= .returned (.int .i64 ((bhP blB s.data.toList q:Nat):Int))∧w'=u):=fun q u hq=>w_bhBlank s q u hq hs;have HB2:Hid (∀ q u,q≤s.size→Calls Tryz.prog 94 #[.string s,.int .i64 (q:Int),.func (.func 96) #[] #[]] u fun e w'=>e= .returned (.int .i64 ((bhP rmB s.data.toList q:Nat):Int))∧w'=u):=fun q u hq=>w_bhRemark s q u hq hs;obtain ⟨l,hl⟩:∃ l,l=s.data.toList:=⟨_,rfl⟩;have HL:Hid (l.length=s.size):=by show _=_;rw [hl];exact q0d s
 have HG:Hid (∀ q (h:q<s.size),l.getD q 0=s[q]):=fun q h=>by rw [hl];exact q0v h
 rw [← hl] at HB1 HB2 ⊢;clear hl;have HGE:Hid (∀ (P:UInt8→Bool) q,q≤s.size→bhP P l q≤s.size):=fun P q hq=>by rw [← HL.out];exact (q1G P (by rw [HL.out];exact hq)).2
 obtain ⟨q0,hq0⟩:∃ q0,bhP blB l p=q0:=⟨_,rfl⟩;have HI:Hid (idW l p=idF l (l.length+1) q0):=by show _=_;unfold idW;rw [hq0]
 have HC:=hQz (fun u=>HB1.out p u hp);rw [hq0] at HC;have hq0s:q0≤s.size:=by rw [← hq0];exact HGE.out _ p hp
 clear hq0;go_in;go_wp2_with fail;refine (HC.out _).mono ?_;rintro e w1 ⟨rfl,hw1⟩;obtain rfl:=hw1.symm;go_wp2_with fail
 go_loopw [1] (fun a wr=>∃ q:Nat,q≤s.size∧a= .int .i64 (q:Int)∧Hid (idW l p=idF l (l.length+1) q)∧wr=w) (fun a _=>s.size-(intOf a).toNat)
 case atStart=>exact ⟨q0,hq0s,rfl,HI.out,rfl⟩
 case round=>
  obtain ⟨q,hq,rfl,HQ,rfl⟩:=hrel;clear HI HC hq0s;by_cases hlt:q<s.size
  · have hi1:(q:Int)<(s.size:Int):=by omega
    have hi0:(0:Int)≤(q:Int):=by omega
    have hd:=HG.out q hlt;by_cases h35:s[q].toNat=35
    · have hcd:q<l.length∧(l.getD q 0).toNat=35:=⟨by rw [HL.out];exact hlt,by rw [hd];exact h35⟩;have hgt:=(rm_gt hcd).1;have HST:=hQz (HQ.out.trans (idF_remark hcd));have h35i:((s[q].toNat:Nat):Int)=35:=by omega
      obtain ⟨r,hr⟩:∃ r,bhP rmB l q=r:=⟨_,rfl⟩;have HR1:=hQz (fun u=>HB2.out q u hq);have hrs:=HGE.out rmB q hq;rw [hr] at HST HR1 hrs hgt;obtain ⟨r2,hr2⟩:∃ r2,bhP blB l r=r2:=⟨_,rfl⟩;have HR2:=hQz (fun u=>HB1.out r u hrs);have hrs2:=HGE.out blB r hrs;rw [hr2] at HST HR2 hrs2 hgt;clear hr hr2 hcd hd h35;go_wp2_with fail;refine (HR1.out _).mono ?_;rintro e w1 ⟨rfl,hw1⟩;obtain rfl:=hw1.symm;go_wp2_with fail;refine (HR2.out _).mono ?_;rintro e w1 ⟨rfl,hw1⟩;obtain rfl:=hw1.symm;go_wp2_with fail;go_roundw
      case rel=>exact ⟨r2,hrs2,by first|rfl|go_num,HST,by first|rfl|trivial⟩
      case measure=>simp [intOf];omega
    · have hcd:¬ (q<l.length∧(l.getD q 0).toNat=35):=fun h=>h35 (by rw [← hd];exact h.2);have HST:=hQz (HQ.out.trans (idF_rest hcd));have h35i:¬ ((s[q].toNat:Nat):Int)=35:=by omega
      clear hcd hd h35;go_wp2_with fail;go_ret;exact ⟨by rw [HST.out];first|done|rfl,rfl⟩
  · have hi1:¬ (q:Int)<(s.size:Int):=by omega
    have HST:=hQz (HQ.out.trans (idF_rest (by rw [HL.out];exact fun h=>hlt h.1)));go_wp2_with fail;go_ret;exact ⟨by rw [HST.out];first|done|rfl,rfl⟩
def mkK (l:List UInt8) (p:Nat):Nat→List UInt8
 | 0=>[]
 | k+1=>if mkB ((l.drop p).take (k+1))=true then (l.drop p).take (k+1) else mkK l p k
theorem mkK_less {l:List UInt8} {p k:Nat} (h:l.length-p≤k):mkK l p (k+1)=mkK l p k:=by
 have e:(l.drop p).take (k+1)=(l.drop p).take k:=by rw [List.take_of_length_le (by simp;omega),List.take_of_length_le (by simp;omega)]
 rw [mkK,e]
 cases k with
 | zero=>rw [List.take_zero];rw [if_neg (by decide)]
 | succ k=>
  rw [mkK]
  split
  · rfl
  · next h2=>rfl
theorem mkK_min (l:List UInt8) (p:Nat):mkW l p=mkK l p (min 3 (l.length-p)):=by
 show mkK l p 3=_;by_cases h3:3≤l.length-p
 · rw [show min 3 (l.length-p)=3 by omega]
 rw [mkK_less (by omega)];by_cases h2:2≤l.length-p
 · rw [show min 3 (l.length-p)=2 by omega]
 rw [mkK_less (by omega)];by_cases h1:1≤l.length-p
 · rw [show min 3 (l.length-p)=1 by omega]
 rw [mkK_less (by omega),show min 3 (l.length-p)=0 by omega]
theorem mkK_len (l:List UInt8) (p:Nat):∀ k,(mkK l p k).length≤l.length-p:=by
 intro k
 induction k with
 | zero=>exact Nat.zero_le _
 | succ k ih=>
  rw [mkK]
  split
  · simp;omega
  · exact ih
theorem w_markAt (s:ByteArray) (p:Nat) (w:World) (hp:p<s.size) (hs:s.size≤140737488355328):
 Calls Tryz.prog 154 #[.string s,.int .i64 (p:Int)] w fun e w'=>e= .returned (.string ⟨(mkW s.data.toList p).toArray⟩)∧w'=w:=by
 have HM:=hQz (fun n u=>w_wMarked n u)
 have HX:Hid (∀ k,p+k≤s.size→s.extract p (p+k)=⟨((s.data.toList.drop p).take k).toArray⟩):=fun k hk=>by
  have:=ext_cut s p (p+k) hk;unfold cut at this;rw [show p+k-p=k by omega] at this;exact this
 have HK:=hQz (mkK_min s.data.toList p);rw [q0d] at HK;generalize s.data.toList=l at *;obtain ⟨m,hm⟩:∃ m,min 3 (s.size-p)=m:=⟨_,rfl⟩;rw [hm] at HK;have HMI:Hid (min (3:Int) ((s.size:Int)-(p:Int))=(m:Int)):=by show _=_;omega
 have hm3:m≤3:=by omega
 have hms:p+m≤s.size:=by omega
 clear hm;by_cases hc3:(3:Int)≤(s.size:Int)-(p:Int)
 all_goals
  have hmi:=HMI.out;go_in;go_wp2_with fail
  go_loopw [5] (fun a wr=>∃ k:Nat,k≤m∧a= .int .i64 (k:Int)∧Hid (mkW l p=mkK l p k)∧wr=w) (fun a _=>(intOf a).toNat)
  case atStart=>exact ⟨m,Nat.le_refl _,by rw [← HMI.out],HK.out,rfl⟩
  case round=>
   obtain ⟨k,hk,rfl,HQ,rfl⟩:=hrel;clear HK HMI hmi;by_cases h0:0<k
   · have hi0:(0:Int)<(k:Int):=by omega
     obtain ⟨j,rfl⟩:∃ j,k=j+1:=⟨k-1,by omega⟩;have hx:=HX.out (j+1) (by omega);have HMk:=hQz (fun u=>HM.out (s.extract p (p+(j+1))) u);rw [hx] at HMk;have HQ2:Hid (mkW l p=if mkB ((l.drop p).take (j+1))=true then (l.drop p).take (j+1) else mkK l p j):=HQ.out;have HX2:=hQz hx;rw [arr_lst] at HMk;rw [← hx] at HMk;generalize (l.drop p).take (j+1)=tk at *;clear HQ;have hs0:(0:Int)≤(p:Int):=by omega
     have hs1:(p:Int)≤(p:Int)+((j:Int)+1):=by omega
     have hs2:(p:Int)+((j:Int)+1)≤(s.size:Int):=by omega
     cases hb:mkB tk with
     | true=>
      rw [hb] at HMk;rw [if_pos hb] at HQ2;clear hb hx;go_wp2_with fail;refine (HMk.out _).mono ?_;rintro e w1 ⟨rfl,hw1⟩;obtain rfl:=hw1.symm;go_wp2_with fail;go_ret;exact ⟨by rw [HQ2.out,← HX2.out];first|rfl|go_num,rfl⟩
     | false=>
      rw [hb] at HMk;rw [if_neg (by rw [hb];decide)] at HQ2;clear hb hx;go_wp2_with fail;refine (HMk.out _).mono ?_;rintro e w1 ⟨rfl,hw1⟩;obtain rfl:=hw1.symm;go_wp2_with fail;go_roundw
      case rel=>exact ⟨j,by omega,by go_num,HQ2,by first|rfl|trivial⟩
      case measure=>simp [intOf]
   · have hi0:¬ (0:Int)<(k:Int):=by omega
     have HE:Hid (mkW l p=[]):=by show _=_;rw [HQ.out,show k=0 by omega];rfl
     go_wp2_with fail;go_ret;exact ⟨by rw [HE.out];first|done|rfl,rfl⟩
theorem ext_le (s:ByteArray) (a b:Nat):(s.extract a b).size≤s.size:=by rw [ByteArray.size_extract];omega
theorem w_cVar (s:ByteArray) (p C:Nat) (v:Value) (w:World) (hp:p<s.size) (hs:s.size≤1099511627776) (hC:CtB w C s v):
 Calls Tryz.prog 99 #[.pointer (some ⟨C,0,none⟩),.int .i64 (p:Int)] w fun e w'=>TokR (varT s.data.toList p) w w' e:=by
 have HN:=hQz (fun u=>q11 s (p+1) u (by omega) (by omega));have hln:=q26 (l:=s.data.toList) (p:=p+1) (by rw [q0d];omega);rw [q0d] at hln;have hsz:(⟨(q0A s.data.toList (p+1)).toArray⟩:ByteArray).size=(q0A s.data.toList (p+1)).length:=q1F _;have HO:=hQz (fun u=>w_Plain ⟨(q0A s.data.toList (p+1)).toArray⟩ u (by rw [hsz];omega));rw [arr_lst (q0A s.data.toList (p+1))] at HO;unfold varT TokR tokV
 try dsimp only
 rw [show ((p+1:Nat):Int)=(p:Int)+1 by omega] at HN;generalize q0A s.data.toList (p+1)=nm at *;obtain ⟨tb,htb⟩:∃ tb:ByteArray,(⟨nm.toArray⟩:ByteArray)=tb:=⟨_,rfl⟩;rw [htb] at HN hsz HO;have HTB:=hQz htb;clear htb;have HR:Hid (((nm.length:Nat):Int)=(tb.size:Int)):=by show _=_;rw [hsz]
 have HR2:Hid (((p+1+nm.length:Nat):Int)=(p:Int)+1+(tb.size:Int)):=by show _=_;rw [hsz];omega
 have hln2:p+1+tb.size≤s.size:=by rw [hsz];exact hln
 clear hsz hln
 cases ho:q0Y nm with
 | true=>
  rw [ho] at HO;rw [if_pos rfl];dsimp only;rw [HTB.out];clear ho;have HC0:=hQz (hC.low (q0a w q0c) hC.lt);have c0:=HC0.out.c0;unfold q0c at c0;go_in;go_wp2_with fail;refine (HN.out _).mono ?_;rintro e w1 ⟨rfl,hw1⟩;obtain rfl:=hw1.symm;clear c0;go_wp2_with fail;refine (HO.out _).mono ?_;rintro e w1 ⟨rfl,hw1⟩;obtain rfl:=hw1.symm;obtain ⟨W,hW⟩:∃ W,w.alloc q0c=W:=⟨_,rfl⟩;have hX:=heap_alloc_new w q0c;rw [hW] at hX;have HX:=hQz hX;have hb:=q0a w q0c;rw [hW] at hb;have HB:=hQz hb;obtain ⟨kc0,kc1,kc2,kc3,kf0,kf1,kf2,kf3⟩:=q06 hX;unfold q0c at hW;rw [hW];clear hW hX hb;go_wp2_with fail;(try simp only [Exit.inBlock,Exit.then])
  generalize hz:((((W).setCell ⟨w.heap.size,0,none⟩ (.int .i64 3)).setCell ⟨w.heap.size,1,none⟩ (.int .i64 (p:Int))).setCell ⟨w.heap.size,2,none⟩ (.int .i64 ((p:Int)+1+(tb.size:Int)))).setCell ⟨w.heap.size,3,none⟩ (.string tb)=wz;obtain ⟨z1,z2,z3,z4⟩:=q0k _ _ _ _ _ _ _ _ _ _ _ HX.out wz hz.symm;obtain ⟨hd0,hd1,hd2,hd3,_⟩:=q06 z1;refine bodyPost_ret (v:= .tuple #[.agg #[.int .i64 3,.int .i64 (p:Int),.int .i64 ((p:Int)+1+(tb.size:Int)),.string tb],.int .i64 0]) (by simp [results,Tryz.results99,go_sem,hd0,hd1,hd2,hd3]) rfl ?_;exact ⟨by first|(rw [HR.out];first|done|rfl)|(rw [HR2.out];first|done|rfl),HB.out.trans (z4 _ (Nat.le_refl _))⟩
 | false=>
  rw [ho] at HO;rw [if_neg (by decide)];dsimp only;clear ho;have HC0:=hQz (hC.low (q0a w q0c) hC.lt);have c0:=HC0.out.c0;unfold q0c at c0;go_in;go_wp2_with fail;refine (HN.out _).mono ?_;rintro e w1 ⟨rfl,hw1⟩;obtain rfl:=hw1.symm;clear c0;go_wp2_with fail;refine (HO.out _).mono ?_;rintro e w1 ⟨rfl,hw1⟩;obtain rfl:=hw1.symm;go_wp2_with fail;refine (w_wfault _ _ _).mono ?_;rintro e w1 ⟨rfl,hb1⟩;have hbx:=tbox1 hb1;have HB1:=hQz hbx.2;obtain ⟨kc0,kc1,kc2,kc3,kf0,kf1,kf2,kf3⟩:=q06 hbx.1;have HX:=hQz hbx.1;clear hb1 hbx;go_wp2_with fail;(try simp only [Exit.inBlock,Exit.then])
  generalize hz:((((w1).setCell ⟨w.heap.size,0,none⟩ (.int .i64 0)).setCell ⟨w.heap.size,1,none⟩ (.int .i64 (p:Int))).setCell ⟨w.heap.size,2,none⟩ (.int .i64 0)).setCell ⟨w.heap.size,3,none⟩ (.string ⟨#[]⟩)=wz;obtain ⟨z1,z2,z3,z4⟩:=q0k _ _ _ _ _ _ _ _ _ _ _ HX.out wz hz.symm;obtain ⟨hd0,hd1,hd2,hd3,_⟩:=q06 z1;refine bodyPost_ret (v:= .tuple #[.agg #[.int .i64 0,.int .i64 (p:Int),.int .i64 0,.string ⟨#[]⟩],.int .i64 160]) (by simp [results,Tryz.results99,go_sem,hd0,hd1,hd2,hd3]) rfl ?_;exact ⟨rfl,HB1.out.trans (z4 _ (Nat.le_refl _))⟩
theorem w_cField (s:ByteArray) (p C:Nat) (v:Value) (w:World) (hp:p<s.size) (hs:s.size≤1099511627776) (hC:CtB w C s v):
 Calls Tryz.prog 100 #[.pointer (some ⟨C,0,none⟩),.int .i64 (p:Int)] w fun e w'=>TokR (fieldT s.data.toList p) w w' e:=by
 have HN:=hQz (fun u=>q11 s (p+1) u (by omega) (by omega));have hln:=q26 (l:=s.data.toList) (p:=p+1) (by rw [q0d];omega);rw [q0d] at hln;have hsz:(⟨(q0A s.data.toList (p+1)).toArray⟩:ByteArray).size=(q0A s.data.toList (p+1)).length:=q1F _;unfold fieldT TokR tokV
 try dsimp only
 rw [show ((p+1:Nat):Int)=(p:Int)+1 by omega] at HN;generalize q0A s.data.toList (p+1)=nm at *;obtain ⟨tb,htb⟩:∃ tb:ByteArray,(⟨nm.toArray⟩:ByteArray)=tb:=⟨_,rfl⟩;rw [htb] at HN hsz ⊢;have HTB:=hQz htb;clear htb;have HR:Hid (((nm.length:Nat):Int)=(tb.size:Int)):=by show _=_;rw [hsz]
 have HR2:Hid (((p+1+nm.length:Nat):Int)=(p:Int)+1+(tb.size:Int)):=by show _=_;rw [hsz];omega
 have hln2:p+1+tb.size≤s.size:=by rw [hsz];exact hln
 clear hsz hln;have HC0:=hQz (hC.low (q0a w q0c) hC.lt);have c0:=HC0.out.c0;unfold q0c at c0;go_in;go_wp2_with fail;refine (HN.out _).mono ?_;rintro e w1 ⟨rfl,hw1⟩;obtain rfl:=hw1.symm;clear c0;obtain ⟨W,hW⟩:∃ W,w.alloc q0c=W:=⟨_,rfl⟩;have hX:=heap_alloc_new w q0c;rw [hW] at hX;have HX:=hQz hX;have hb:=q0a w q0c;rw [hW] at hb;have HB:=hQz hb;obtain ⟨kc0,kc1,kc2,kc3,kf0,kf1,kf2,kf3⟩:=q06 hX;unfold q0c at hW;rw [hW];clear hW hX hb;go_wp2_with fail;(try simp only [Exit.inBlock,Exit.then])
 generalize hz:((((W).setCell ⟨w.heap.size,0,none⟩ (.int .i64 4)).setCell ⟨w.heap.size,1,none⟩ (.int .i64 (p:Int))).setCell ⟨w.heap.size,2,none⟩ (.int .i64 ((p:Int)+1+(tb.size:Int)))).setCell ⟨w.heap.size,3,none⟩ (.string tb)=wz;obtain ⟨z1,z2,z3,z4⟩:=q0k _ _ _ _ _ _ _ _ _ _ _ HX.out wz hz.symm;obtain ⟨hd0,hd1,hd2,hd3,_⟩:=q06 z1;refine bodyPost_ret (v:= .tuple #[.agg #[.int .i64 4,.int .i64 (p:Int),.int .i64 ((p:Int)+1+(tb.size:Int)),.string tb],.int .i64 0]) (by simp [results,Tryz.results100,go_sem,hd0,hd1,hd2,hd3]) rfl ?_;exact ⟨by first|(rw [HR.out];first|done|rfl)|(rw [HR2.out];first|done|rfl),HB.out.trans (z4 _ (Nat.le_refl _))⟩
theorem w_cNumber (s:ByteArray) (p C:Nat) (v:Value) (w:World) (hp:p<s.size) (hs:s.size≤1099511627776) (hC:CtB w C s v):
 Calls Tryz.prog 102 #[.pointer (some ⟨C,0,none⟩),.int .i64 (p:Int)] w fun e w'=>TokR (numT16 s.data.toList p) w w' e:=by
 have HBh:=hQz (fun u=>w_bhNumber s p u (by omega) (by omega));have hbe:=q1G nuB (l:=s.data.toList) (p:=p) (by rw [q0d];omega);have HX0:=hQz (ext_cut s p (bhP nuB s.data.toList p) (by rw [← q0d];exact hbe.2));unfold numT16 TokR tokV;rw [q0d] at hbe;generalize bhP nuB s.data.toList p=q at *;obtain ⟨hpq,hqs⟩:=hbe;have hj0:(0:Int)≤(p:Int):=by omega
 have hj1:(p:Int)≤(q:Int):=by omega
 have hj2:(q:Int)≤(s.size:Int):=by omega
 have HF:=hQz (fun u=>q1a (s.extract p q) u (Nat.le_trans (ext_le s p q) (by unfold maxLen;omega)));rw [q1W s p q hqs] at HF
 cases ho:Pl.formed (cut s.data.toList p q) with
 | true=>
  rw [ho] at HF;rw [if_pos rfl];dsimp only;rw [← HX0.out];clear ho;have HC0:=hQz (hC.low (q0a w q0c) hC.lt);have c0:=HC0.out.c0;unfold q0c at c0;go_in;go_wp2_with fail;refine (HBh.out _).mono ?_;rintro e w1 ⟨rfl,hw1⟩;obtain rfl:=hw1.symm;go_wp2_with fail;clear c0;refine (HF.out _).mono ?_;rintro e w1 ⟨rfl,hb1⟩;have hbx:=tbox1 hb1;have HB1:=hQz hbx.2;obtain ⟨kc0,kc1,kc2,kc3,kf0,kf1,kf2,kf3⟩:=q06 hbx.1;have HX:=hQz hbx.1;clear hb1 hbx;go_wp2_with fail;(try simp only [Exit.inBlock,Exit.then])
  generalize hz:((((w1).setCell ⟨w.heap.size,0,none⟩ (.int .i64 5)).setCell ⟨w.heap.size,1,none⟩ (.int .i64 (p:Int))).setCell ⟨w.heap.size,2,none⟩ (.int .i64 (q:Int))).setCell ⟨w.heap.size,3,none⟩ (.string (s.extract p q))=wz;obtain ⟨z1,z2,z3,z4⟩:=q0k _ _ _ _ _ _ _ _ _ _ _ HX.out wz hz.symm;obtain ⟨hd0,hd1,hd2,hd3,_⟩:=q06 z1;refine bodyPost_ret (v:= .tuple #[.agg #[.int .i64 5,.int .i64 (p:Int),.int .i64 (q:Int),.string (s.extract p q)],.int .i64 0]) (by simp [results,Tryz.results102,go_sem,hd0,hd1,hd2,hd3]) rfl ?_;exact ⟨rfl,HB1.out.trans (z4 _ (Nat.le_refl _))⟩
 | false=>
  rw [ho] at HF;rw [if_neg (by decide)];dsimp only;clear ho;have HC0:=hQz (hC.low (q0a w q0c) hC.lt);have c0:=HC0.out.c0;unfold q0c at c0;go_in;go_wp2_with fail;refine (HBh.out _).mono ?_;rintro e w1 ⟨rfl,hw1⟩;obtain rfl:=hw1.symm;go_wp2_with fail;clear c0;refine (HF.out _).mono ?_;rintro e w1 ⟨rfl,hb1⟩;have hbx:=tbox1 hb1;have HB1:=hQz hbx.2;have HX1:=hQz hbx.1;clear hb1 hbx;go_wp2_with fail;refine (w_wfault _ _ _).mono ?_;rintro e w2 ⟨rfl,hb2⟩;have HX:=hQz (q0y hb2 (Array.getElem?_eq_some_iff.1 HX1.out).1 HX1.out);have HB2:=hQz (HB1.out.trans (hb2.mono HB1.out.size));obtain ⟨kc0,kc1,kc2,kc3,kf0,kf1,kf2,kf3⟩:=q06 HX.out;clear hb2;go_wp2_with fail;(try simp only [Exit.inBlock,Exit.then])
  generalize hz:((((w2).setCell ⟨w.heap.size,0,none⟩ (.int .i64 0)).setCell ⟨w.heap.size,1,none⟩ (.int .i64 (p:Int))).setCell ⟨w.heap.size,2,none⟩ (.int .i64 0)).setCell ⟨w.heap.size,3,none⟩ (.string ⟨#[]⟩)=wz;obtain ⟨z1,z2,z3,z4⟩:=q0k _ _ _ _ _ _ _ _ _ _ _ HX.out wz hz.symm;obtain ⟨hd0,hd1,hd2,hd3,_⟩:=q06 z1;refine bodyPost_ret (v:= .tuple #[.agg #[.int .i64 0,.int .i64 (p:Int),.int .i64 0,.string ⟨#[]⟩],.int .i64 42]) (by simp [results,Tryz.results102,go_sem,hd0,hd1,hd2,hd3]) rfl ?_;exact ⟨rfl,HB2.out.trans (z4 _ (Nat.le_refl _))⟩
theorem w_pieceEnd (s:ByteArray) (p:Nat) (w:World) (hp:p≤s.size) (hs:s.size≤140737488355328):
 Calls Tryz.prog 150 #[.string s,.int .i64 (p:Int)] w fun e w'=>e= .returned (.int .i64 ((peW s.data.toList p:Nat):Int))∧w'=w:=by
 have HB1:Hid (∀ q u,q≤s.size→Calls Tryz.prog 94 #[.string s,.int .i64 (q:Int),.func (.func 189) #[] #[]] u fun e w'=>e= .returned (.int .i64 ((bhP piB s.data.toList q:Nat):Int))∧w'=u):=fun q u hq=>w_bhPiece s q u hq hs
 have HP:Hid (∀ q u,Calls Tryz.prog 124 #[.string (s.extract q s.size),.string ⟨#[92,40]⟩] u fun e w'=>e= .returned (.bool (inwB s.data.toList q))∧w'=u):=fun q u=>by
  have:=Tryz.strings_HasPrefix (s.extract q s.size) ⟨#[92,40]⟩ u;rw [q0M] at this;exact this
 obtain ⟨l,hl⟩:∃ l,l=s.data.toList:=⟨_,rfl⟩;have HL:Hid (l.length=s.size):=by show _=_;rw [hl];exact q0d s
 have HG:Hid (∀ q (h:q<s.size),l.getD q 0=s[q]):=fun q h=>by rw [hl];exact q0v h
 rw [← hl] at HB1 HP ⊢;clear hl;have HGE:Hid (∀ (P:UInt8→Bool) q,q≤s.size→bhP P l q≤s.size):=fun P q hq=>by rw [← HL.out];exact (q1G P (by rw [HL.out];exact hq)).2
 obtain ⟨q0,hq0⟩:∃ q0,bhP piB l p=q0:=⟨_,rfl⟩;have HI:Hid (peW l p=peF l (l.length+1) q0):=by show _=_;unfold peW;rw [hq0]
 have HC:=hQz (fun u=>HB1.out p u hp);rw [hq0] at HC;have hq0s:q0≤s.size:=by rw [← hq0];exact HGE.out _ p hp
 clear hq0;go_in;go_wp2_with fail;refine (HC.out _).mono ?_;rintro e w1 ⟨rfl,hw1⟩;obtain rfl:=hw1.symm;go_wp2_with fail
 go_loopw [1] (fun a wr=>∃ q:Nat,q≤s.size∧a= .int .i64 (q:Int)∧Hid (peW l p=peF l (l.length+1) q)∧wr=w) (fun a _=>s.size-(intOf a).toNat)
 case atStart=>exact ⟨q0,hq0s,rfl,HI.out,rfl⟩
 case round=>
  obtain ⟨q,hq,rfl,HQ,rfl⟩:=hrel;clear HI HC hq0s;by_cases hlt:q<s.size
  · have hi1:(q:Int)<(s.size:Int):=by omega
    have hi0:(0:Int)≤(q:Int):=by omega
    have hi2:(q:Int)≤(s.size:Int):=by omega
    have hd:=HG.out q hlt;by_cases h92:s[q].toNat=92
    · have h92i:((s[q].toNat:Nat):Int)=92:=by omega
      have HPq:=hQz (fun u=>HP.out q u)
      cases hw:inwB l q with
      | true=>
       have HST:=hQz (HQ.out.trans (peF_rest (fun h=>by have h2:=h.2.2;rw [hw] at h2;exact absurd h2 (by decide))));rw [hw] at HPq;clear hd h92 hw;go_wp2_with fail;refine (HPq.out _).mono ?_;rintro e w1 ⟨rfl,hw1⟩;obtain rfl:=hw1.symm;go_wp2_with fail;go_ret;exact ⟨by rw [HST.out];first|done|rfl,rfl⟩
      | false=>
       have hcd:peC l q:=⟨by rw [HL.out];exact hlt,by rw [hd];exact h92,hw⟩;have hgt:=(pe_gt hcd).1;have HST:=hQz (HQ.out.trans (peF_esc hcd));rw [hw] at HPq;obtain ⟨m,hm⟩:∃ m,min (q+2) l.length=m:=⟨_,rfl⟩;rw [hm] at HST hgt;rw [HL.out] at hm;have hms:m≤s.size:=by omega
       have HR1:=hQz (fun u=>HB1.out m u hms);have hrs:=HGE.out piB m hms;obtain ⟨r,hr⟩:∃ r,bhP piB l m=r:=⟨_,rfl⟩;rw [hr] at HST HR1 hrs hgt;have HM:Hid ((m:Int)=min ((q:Int)+2) (s.size:Int)):=by show _=_;omega
       rw [HM.out] at HR1;clear hd h92 hw hr hcd hm HM;go_wp2_with fail;refine (HPq.out _).mono ?_;rintro e w1 ⟨rfl,hw1⟩;obtain rfl:=hw1.symm;go_wp2_with fail;refine (HR1.out _).mono ?_;rintro e w1 ⟨rfl,hw1⟩;obtain rfl:=hw1.symm;go_wp2_with fail;go_roundw
       case rel=>exact ⟨r,hrs,by first|rfl|go_num,HST,by first|rfl|trivial⟩
       case measure=>simp [intOf];omega
    · have HST:=hQz (HQ.out.trans (peF_rest (fun h=>h92 (by rw [← hd];exact h.2.1))));have h92i:¬ ((s[q].toNat:Nat):Int)=92:=by omega
      clear hd h92;go_wp2_with fail;go_ret;exact ⟨by rw [HST.out];first|done|rfl,rfl⟩
  · have hi1:¬ (q:Int)<(s.size:Int):=by omega
    have HST:=hQz (HQ.out.trans (peF_rest (fun h=>hlt (by have:=h.1;rw [HL.out] at this;exact this))));go_wp2_with fail;go_ret;exact ⟨by rw [HST.out];first|done|rfl,rfl⟩
end Go.Proofs.YtdjleoglphgdgaaGreatDoor
