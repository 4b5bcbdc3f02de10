import Derived.Test.YtbpopnafcpfifaaGreatDoorM21
import Derived.Test.YtbpopnafcpfifaaGreatDoorM20
import Derived.Test.YtbpopnafcpfifaaGreatDoorM19
set_option linter.unusedVariables false
set_option linter.unusedSimpArgs false
namespace Go.Proofs.YtbpopnafcpfifaaGreatDoor
open Go.RowKit
set_option maxRecDepth 100000
set_option maxHeartbeats 12800000
theorem ext_le (s:ByteArray) (a b:Nat):(s.extract a b).size≤s.size:=by rw [ByteArray.size_extract];omega
theorem w_cVar (s:ByteArray) (p C:Nat) (v:Value) (w:World) (hp:p<s.size) (hs:s.size≤1099511627776) (hC:CtB w C s v):
 Calls Tryz.prog 41 #[.pointer (some ⟨C,0,none⟩),.int .i64 (p:Int)] w fun e w'=>TokR (varT s.data.toList p) w w' e:=by
 have HN:=hQz (fun u=>q1e s (p+1) u (by omega) (by omega));have hln:=q2w (l:=s.data.toList) (p:=p+1) (by rw [q08];omega);rw [q08] at hln;have hsz:(⟨(q0e s.data.toList (p+1)).toArray⟩:ByteArray).size=(q0e s.data.toList (p+1)).length:=q2a _;have HO:=hQz (fun u=>w_Plain ⟨(q0e s.data.toList (p+1)).toArray⟩ u (by rw [hsz];omega));rw [arr_lst (q0e s.data.toList (p+1))] at HO;unfold varT TokR tokV
 try dsimp only
 rw [show ((p+1:Nat):Int)=(p:Int)+1 by omega] at HN;generalize q0e s.data.toList (p+1)=nm at *;obtain ⟨tb,htb⟩:∃ tb:ByteArray,(⟨nm.toArray⟩:ByteArray)=tb:=⟨_,rfl⟩;rw [htb] at HN hsz HO;have HTB:=hQz htb;clear htb;have HR:Hid (((nm.length:Nat):Int)=(tb.size:Int)):=by show _=_;rw [hsz]
 have HR2:Hid (((p+1+nm.length:Nat):Int)=(p:Int)+1+(tb.size:Int)):=by show _=_;rw [hsz];omega
 have hln2:p+1+tb.size≤s.size:=by rw [hsz];exact hln
 clear hsz hln
 cases ho:plainW nm with
 | true=>
  rw [ho] at HO;rw [if_pos rfl];dsimp only;rw [HTB.out];clear ho;have HC0:=hQz (hC.low (q0a w q09) hC.lt);have c0:=HC0.out.c0;unfold q09 at c0;go_enter Tryz.func41,Tryz.ntmps41;go_wp2_with fail;refine (HN.out _).mono ?_;rintro e w1 ⟨rfl,hw1⟩;obtain rfl:=hw1.symm;clear c0;go_wp2_with fail;refine (HO.out _).mono ?_;rintro e w1 ⟨rfl,hw1⟩;obtain rfl:=hw1.symm;obtain ⟨W,hW⟩:∃ W,w.alloc q09=W:=⟨_,rfl⟩;have hX:=heap_alloc_new w q09;rw [hW] at hX;have HX:=hQz hX;have hb:=q0a w q09;rw [hW] at hb;have HB:=hQz hb;obtain ⟨kc0,kc1,kc2,kc3,kf0,kf1,kf2,kf3⟩:=q02 hX;unfold q09 at hW;rw [hW];clear hW hX hb;go_wp2_with fail;(try simp only [Exit.inBlock,Exit.then])
  generalize hz:((((W).setCell ⟨w.heap.size,0,none⟩ (.int .i64 3)).setCell ⟨w.heap.size,1,none⟩ (.int .i64 (p:Int))).setCell ⟨w.heap.size,2,none⟩ (.int .i64 ((p:Int)+1+(tb.size:Int)))).setCell ⟨w.heap.size,3,none⟩ (.string tb)=wz;obtain ⟨z1,z2,z3,z4⟩:=q0g _ _ _ _ _ _ _ _ _ _ _ HX.out wz hz.symm;obtain ⟨hd0,hd1,hd2,hd3,_⟩:=q02 z1;refine bodyPost_ret (v:= .tuple #[.agg #[.int .i64 3,.int .i64 (p:Int),.int .i64 ((p:Int)+1+(tb.size:Int)),.string tb],.int .i64 0]) (by simp [results,Tryz.results41,go_sem,hd0,hd1,hd2,hd3]) rfl ?_;exact ⟨by first|(rw [HR.out];first|done|rfl)|(rw [HR2.out];first|done|rfl),HB.out.trans (z4 _ (Nat.le_refl _))⟩
 | false=>
  rw [ho] at HO;rw [if_neg (by decide)];dsimp only;clear ho;have HC0:=hQz (hC.low (q0a w q09) hC.lt);have c0:=HC0.out.c0;unfold q09 at c0;go_enter Tryz.func41,Tryz.ntmps41;go_wp2_with fail;refine (HN.out _).mono ?_;rintro e w1 ⟨rfl,hw1⟩;obtain rfl:=hw1.symm;clear c0;go_wp2_with fail;refine (HO.out _).mono ?_;rintro e w1 ⟨rfl,hw1⟩;obtain rfl:=hw1.symm;go_wp2_with fail;refine (w_wfault _ _ _).mono ?_;rintro e w1 ⟨rfl,hb1⟩;have hbx:=tbox1 hb1;have HB1:=hQz hbx.2;obtain ⟨kc0,kc1,kc2,kc3,kf0,kf1,kf2,kf3⟩:=q02 hbx.1;have HX:=hQz hbx.1;clear hb1 hbx;go_wp2_with fail;(try simp only [Exit.inBlock,Exit.then])
  generalize hz:((((w1).setCell ⟨w.heap.size,0,none⟩ (.int .i64 0)).setCell ⟨w.heap.size,1,none⟩ (.int .i64 (p:Int))).setCell ⟨w.heap.size,2,none⟩ (.int .i64 0)).setCell ⟨w.heap.size,3,none⟩ (.string ⟨#[]⟩)=wz;obtain ⟨z1,z2,z3,z4⟩:=q0g _ _ _ _ _ _ _ _ _ _ _ HX.out wz hz.symm;obtain ⟨hd0,hd1,hd2,hd3,_⟩:=q02 z1;refine bodyPost_ret (v:= .tuple #[.agg #[.int .i64 0,.int .i64 (p:Int),.int .i64 0,.string ⟨#[]⟩],.int .i64 160]) (by simp [results,Tryz.results41,go_sem,hd0,hd1,hd2,hd3]) rfl ?_;exact ⟨rfl,HB1.out.trans (z4 _ (Nat.le_refl _))⟩
theorem w_cField (s:ByteArray) (p C:Nat) (v:Value) (w:World) (hp:p<s.size) (hs:s.size≤1099511627776) (hC:CtB w C s v):
 Calls Tryz.prog 43 #[.pointer (some ⟨C,0,none⟩),.int .i64 (p:Int)] w fun e w'=>TokR (q2u s.data.toList p) w w' e:=by
 have HN:=hQz (fun u=>q1e s (p+1) u (by omega) (by omega));have hln:=q2w (l:=s.data.toList) (p:=p+1) (by rw [q08];omega);rw [q08] at hln;have hsz:(⟨(q0e s.data.toList (p+1)).toArray⟩:ByteArray).size=(q0e s.data.toList (p+1)).length:=q2a _;unfold q2u TokR tokV
 try dsimp only
 rw [show ((p+1:Nat):Int)=(p:Int)+1 by omega] at HN;generalize q0e s.data.toList (p+1)=nm at *;obtain ⟨tb,htb⟩:∃ tb:ByteArray,(⟨nm.toArray⟩:ByteArray)=tb:=⟨_,rfl⟩;rw [htb] at HN hsz ⊢;have HTB:=hQz htb;clear htb;have HR:Hid (((nm.length:Nat):Int)=(tb.size:Int)):=by show _=_;rw [hsz]
 have HR2:Hid (((p+1+nm.length:Nat):Int)=(p:Int)+1+(tb.size:Int)):=by show _=_;rw [hsz];omega
 have hln2:p+1+tb.size≤s.size:=by rw [hsz];exact hln
 clear hsz hln;have HC0:=hQz (hC.low (q0a w q09) hC.lt);have c0:=HC0.out.c0;unfold q09 at c0;go_enter Tryz.func43,Tryz.ntmps43;go_wp2_with fail;refine (HN.out _).mono ?_;rintro e w1 ⟨rfl,hw1⟩;obtain rfl:=hw1.symm;clear c0;obtain ⟨W,hW⟩:∃ W,w.alloc q09=W:=⟨_,rfl⟩;have hX:=heap_alloc_new w q09;rw [hW] at hX;have HX:=hQz hX;have hb:=q0a w q09;rw [hW] at hb;have HB:=hQz hb;obtain ⟨kc0,kc1,kc2,kc3,kf0,kf1,kf2,kf3⟩:=q02 hX;unfold q09 at hW;rw [hW];clear hW hX hb;go_wp2_with fail;(try simp only [Exit.inBlock,Exit.then])
 generalize hz:((((W).setCell ⟨w.heap.size,0,none⟩ (.int .i64 4)).setCell ⟨w.heap.size,1,none⟩ (.int .i64 (p:Int))).setCell ⟨w.heap.size,2,none⟩ (.int .i64 ((p:Int)+1+(tb.size:Int)))).setCell ⟨w.heap.size,3,none⟩ (.string tb)=wz;obtain ⟨z1,z2,z3,z4⟩:=q0g _ _ _ _ _ _ _ _ _ _ _ HX.out wz hz.symm;obtain ⟨hd0,hd1,hd2,hd3,_⟩:=q02 z1;refine bodyPost_ret (v:= .tuple #[.agg #[.int .i64 4,.int .i64 (p:Int),.int .i64 ((p:Int)+1+(tb.size:Int)),.string tb],.int .i64 0]) (by simp [results,Tryz.results43,go_sem,hd0,hd1,hd2,hd3]) rfl ?_;exact ⟨by first|(rw [HR.out];first|done|rfl)|(rw [HR2.out];first|done|rfl),HB.out.trans (z4 _ (Nat.le_refl _))⟩
theorem w_cNumber (s:ByteArray) (p C:Nat) (v:Value) (w:World) (hp:p<s.size) (hs:s.size≤1099511627776) (hC:CtB w C s v):
 Calls Tryz.prog 45 #[.pointer (some ⟨C,0,none⟩),.int .i64 (p:Int)] w fun e w'=>TokR (q1S s.data.toList p) w w' e:=by
 have HBh:=hQz (fun u=>w_bhNumber s p u (by omega) (by omega));have hbe:=q0R nuB (l:=s.data.toList) (p:=p) (by rw [q08];omega);have HX0:=hQz (q1R s p (bhP nuB s.data.toList p) (by rw [← q08];exact hbe.2));unfold q1S TokR tokV;rw [q08] at hbe;generalize bhP nuB s.data.toList p=q at *;obtain ⟨hpq,hqs⟩:=hbe;have hj0:(0:Int)≤(p:Int):=by omega
 have hj1:(p:Int)≤(q:Int):=by omega
 have hj2:(q:Int)≤(s.size:Int):=by omega
 have HF:=hQz (fun u=>w_Formed (s.extract p q) u (Nat.le_trans (ext_le s p q) (by unfold maxLen;omega)));rw [q0P s p q hqs] at HF
 cases ho:Pl.formed (cut s.data.toList p q) with
 | true=>
  rw [ho] at HF;rw [if_pos rfl];dsimp only;rw [← HX0.out];clear ho;have HC0:=hQz (hC.low (q0a w q09) hC.lt);have c0:=HC0.out.c0;unfold q09 at c0;go_enter Tryz.func45,Tryz.ntmps45;go_wp2_with fail;refine (HBh.out _).mono ?_;rintro e w1 ⟨rfl,hw1⟩;obtain rfl:=hw1.symm;go_wp2_with fail;clear c0;refine (HF.out _).mono ?_;rintro e w1 ⟨rfl,hb1⟩;have hbx:=tbox1 hb1;have HB1:=hQz hbx.2;obtain ⟨kc0,kc1,kc2,kc3,kf0,kf1,kf2,kf3⟩:=q02 hbx.1;have HX:=hQz hbx.1;clear hb1 hbx;go_wp2_with fail;(try simp only [Exit.inBlock,Exit.then])
  generalize hz:((((w1).setCell ⟨w.heap.size,0,none⟩ (.int .i64 5)).setCell ⟨w.heap.size,1,none⟩ (.int .i64 (p:Int))).setCell ⟨w.heap.size,2,none⟩ (.int .i64 (q:Int))).setCell ⟨w.heap.size,3,none⟩ (.string (s.extract p q))=wz;obtain ⟨z1,z2,z3,z4⟩:=q0g _ _ _ _ _ _ _ _ _ _ _ HX.out wz hz.symm;obtain ⟨hd0,hd1,hd2,hd3,_⟩:=q02 z1;refine bodyPost_ret (v:= .tuple #[.agg #[.int .i64 5,.int .i64 (p:Int),.int .i64 (q:Int),.string (s.extract p q)],.int .i64 0]) (by simp [results,Tryz.results45,go_sem,hd0,hd1,hd2,hd3]) rfl ?_;exact ⟨rfl,HB1.out.trans (z4 _ (Nat.le_refl _))⟩
 | false=>
  rw [ho] at HF;rw [if_neg (by decide)];dsimp only;clear ho;have HC0:=hQz (hC.low (q0a w q09) hC.lt);have c0:=HC0.out.c0;unfold q09 at c0;go_enter Tryz.func45,Tryz.ntmps45;go_wp2_with fail;refine (HBh.out _).mono ?_;rintro e w1 ⟨rfl,hw1⟩;obtain rfl:=hw1.symm;go_wp2_with fail;clear c0;refine (HF.out _).mono ?_;rintro e w1 ⟨rfl,hb1⟩;have hbx:=tbox1 hb1;have HB1:=hQz hbx.2;have HX1:=hQz hbx.1;clear hb1 hbx;go_wp2_with fail;refine (w_wfault _ _ _).mono ?_;rintro e w2 ⟨rfl,hb2⟩;have HX:=hQz (q0C hb2 (Array.getElem?_eq_some_iff.1 HX1.out).1 HX1.out);have HB2:=hQz (HB1.out.trans (hb2.mono HB1.out.size));obtain ⟨kc0,kc1,kc2,kc3,kf0,kf1,kf2,kf3⟩:=q02 HX.out;clear hb2;go_wp2_with fail;(try simp only [Exit.inBlock,Exit.then])
  generalize hz:((((w2).setCell ⟨w.heap.size,0,none⟩ (.int .i64 0)).setCell ⟨w.heap.size,1,none⟩ (.int .i64 (p:Int))).setCell ⟨w.heap.size,2,none⟩ (.int .i64 0)).setCell ⟨w.heap.size,3,none⟩ (.string ⟨#[]⟩)=wz;obtain ⟨z1,z2,z3,z4⟩:=q0g _ _ _ _ _ _ _ _ _ _ _ HX.out wz hz.symm;obtain ⟨hd0,hd1,hd2,hd3,_⟩:=q02 z1;refine bodyPost_ret (v:= .tuple #[.agg #[.int .i64 0,.int .i64 (p:Int),.int .i64 0,.string ⟨#[]⟩],.int .i64 42]) (by simp [results,Tryz.results45,go_sem,hd0,hd1,hd2,hd3]) rfl ?_;exact ⟨rfl,HB2.out.trans (z4 _ (Nat.le_refl _))⟩
theorem w_pieceEnd (s:ByteArray) (p:Nat) (w:World) (hp:p≤s.size) (hs:s.size≤140737488355328):
 Calls Tryz.prog 68 #[.string s,.int .i64 (p:Int)] w fun e w'=>e= .returned (.int .i64 ((peW s.data.toList p:Nat):Int))∧w'=w:=by
 have HB1:Hid (∀ q u,q≤s.size→Calls Tryz.prog 36 #[.string s,.int .i64 (q:Int),.func (.func 93) #[] #[]] u fun e w'=>e= .returned (.int .i64 ((bhP piB s.data.toList q:Nat):Int))∧w'=u):=fun q u hq=>w_bhPiece s q u hq hs
 have HP:Hid (∀ q u,Calls Tryz.prog 71 #[.string (s.extract q s.size),.string ⟨#[92,40]⟩] u fun e w'=>e= .returned (.bool (inwB s.data.toList q))∧w'=u):=fun q u=>by
  have:=Tryz.strings_HasPrefix (s.extract q s.size) ⟨#[92,40]⟩ u;rw [q0U] at this;exact this
 obtain ⟨l,hl⟩:∃ l,l=s.data.toList:=⟨_,rfl⟩;have HL:Hid (l.length=s.size):=by show _=_;rw [hl];exact q08 s
 have HG:Hid (∀ q (h:q<s.size),l.getD q 0=s[q]):=fun q h=>by rw [hl];exact q0f h
 rw [← hl] at HB1 HP ⊢;clear hl;have HGE:Hid (∀ (P:UInt8→Bool) q,q≤s.size→bhP P l q≤s.size):=fun P q hq=>by rw [← HL.out];exact (q0R P (by rw [HL.out];exact hq)).2
 obtain ⟨q0,hq0⟩:∃ q0,bhP piB l p=q0:=⟨_,rfl⟩;have HI:Hid (peW l p=peF l (l.length+1) q0):=by show _=_;unfold peW;rw [hq0]
 have HC:=hQz (fun u=>HB1.out p u hp);rw [hq0] at HC;have hq0s:q0≤s.size:=by rw [← hq0];exact HGE.out _ p hp
 clear hq0;go_enter Tryz.func68,Tryz.ntmps68;go_wp2_with fail;refine (HC.out _).mono ?_;rintro e w1 ⟨rfl,hw1⟩;obtain rfl:=hw1.symm;go_wp2_with fail
 go_loopw [1] (fun a wr=>∃ q:Nat,q≤s.size∧a= .int .i64 (q:Int)∧Hid (peW l p=peF l (l.length+1) q)∧wr=w) (fun a _=>s.size-(intOf a).toNat)
 case atStart=>exact ⟨q0,hq0s,rfl,HI.out,rfl⟩
 case round=>
  obtain ⟨q,hq,rfl,HQ,rfl⟩:=hrel;clear HI HC hq0s;by_cases hlt:q<s.size
  · have hi1:(q:Int)<(s.size:Int):=by omega
    have hi0:(0:Int)≤(q:Int):=by omega
    have hi2:(q:Int)≤(s.size:Int):=by omega
    have hd:=HG.out q hlt;by_cases h92:s[q].toNat=92
    · have h92i:((s[q].toNat:Nat):Int)=92:=by omega
      have HPq:=hQz (fun u=>HP.out q u)
      cases hw:inwB l q with
      | true=>
       have HST:=hQz (HQ.out.trans (peF_rest (fun h=>by have h2:=h.2.2;rw [hw] at h2;exact absurd h2 (by decide))));rw [hw] at HPq;clear hd h92 hw;go_wp2_with fail;refine (HPq.out _).mono ?_;rintro e w1 ⟨rfl,hw1⟩;obtain rfl:=hw1.symm;go_wp2_with fail;go_ret;exact ⟨by rw [HST.out];first|done|rfl,rfl⟩
      | false=>
       have hcd:peC l q:=⟨by rw [HL.out];exact hlt,by rw [hd];exact h92,hw⟩;have hgt:=(pe_gt hcd).1;have HST:=hQz (HQ.out.trans (peF_esc hcd));rw [hw] at HPq;obtain ⟨m,hm⟩:∃ m,min (q+2) l.length=m:=⟨_,rfl⟩;rw [hm] at HST hgt;rw [HL.out] at hm;have hms:m≤s.size:=by omega
       have HR1:=hQz (fun u=>HB1.out m u hms);have hrs:=HGE.out piB m hms;obtain ⟨r,hr⟩:∃ r,bhP piB l m=r:=⟨_,rfl⟩;rw [hr] at HST HR1 hrs hgt;have HM:Hid ((m:Int)=min ((q:Int)+2) (s.size:Int)):=by show _=_;omega
       rw [HM.out] at HR1;clear hd h92 hw hr hcd hm HM;go_wp2_with fail;refine (HPq.out _).mono ?_;rintro e w1 ⟨rfl,hw1⟩;obtain rfl:=hw1.symm;go_wp2_with fail;refine (HR1.out _).mono ?_;rintro e w1 ⟨rfl,hw1⟩;obtain rfl:=hw1.symm;go_wp2_with fail;go_roundw
       case rel=>exact ⟨r,hrs,by first|rfl|go_num,HST,by first|rfl|trivial⟩
       case measure=>simp [intOf];omega
    · have HST:=hQz (HQ.out.trans (peF_rest (fun h=>h92 (by rw [← hd];exact h.2.1))));have h92i:¬ ((s[q].toNat:Nat):Int)=92:=by omega
      clear hd h92;go_wp2_with fail;go_ret;exact ⟨by rw [HST.out];first|done|rfl,rfl⟩
  · have hi1:¬ (q:Int)<(s.size:Int):=by omega
    have HST:=hQz (HQ.out.trans (peF_rest (fun h=>hlt (by have:=h.1;rw [HL.out] at this;exact this))));go_wp2_with fail;go_ret;exact ⟨by rw [HST.out];first|done|rfl,rfl⟩
theorem q2S (n:ByteArray) (w:World):
 Calls Tryz.prog 31 #[.string n] w fun e w'=>e= .returned (.bool (ownB n.data.toList))∧w'=w:=by
 by_cases h0:n.data.toList=[100,101,102]
 · have HT:ownB n.data.toList=true:=by rw [h0];decide
   rw [HT];have g0:(n.toList==[100,101,102])=true:=by rw [Lib.toList_data,h0];rfl
   clear HT h0;go_enter Tryz.func31,Tryz.ntmps31;go_wp2_with fail;go_ret;exact ⟨rfl,rfl⟩
 have g0:(n.toList==[100,101,102])=false:=by rw [Lib.toList_data,bqZ];exact h0
 have b0:=bqZ.2 h0;clear h0;by_cases h1:n.data.toList=[105,102]
 · have HT:ownB n.data.toList=true:=by rw [h1];decide
   rw [HT];have g1:(n.toList==[105,102])=true:=by rw [Lib.toList_data,h1];rfl
   clear HT h1;go_enter Tryz.func31,Tryz.ntmps31;go_wp2_with fail;go_ret;exact ⟨rfl,rfl⟩
 have g1:(n.toList==[105,102])=false:=by rw [Lib.toList_data,bqZ];exact h1
 have b1:=bqZ.2 h1;clear h1;by_cases h2:n.data.toList=[116,104,101,110]
 · have HT:ownB n.data.toList=true:=by rw [h2];decide
   rw [HT];have g2:(n.toList==[116,104,101,110])=true:=by rw [Lib.toList_data,h2];rfl
   clear HT h2;go_enter Tryz.func31,Tryz.ntmps31;go_wp2_with fail;go_ret;exact ⟨rfl,rfl⟩
 have g2:(n.toList==[116,104,101,110])=false:=by rw [Lib.toList_data,bqZ];exact h2
 have b2:=bqZ.2 h2;clear h2;by_cases h3:n.data.toList=[101,108,105,102]
 · have HT:ownB n.data.toList=true:=by rw [h3];decide
   rw [HT];have g3:(n.toList==[101,108,105,102])=true:=by rw [Lib.toList_data,h3];rfl
   clear HT h3;go_enter Tryz.func31,Tryz.ntmps31;go_wp2_with fail;go_ret;exact ⟨rfl,rfl⟩
 have g3:(n.toList==[101,108,105,102])=false:=by rw [Lib.toList_data,bqZ];exact h3
 have b3:=bqZ.2 h3;clear h3;by_cases h4:n.data.toList=[101,108,115,101]
 · have HT:ownB n.data.toList=true:=by rw [h4];decide
   rw [HT];have g4:(n.toList==[101,108,115,101])=true:=by rw [Lib.toList_data,h4];rfl
   clear HT h4;go_enter Tryz.func31,Tryz.ntmps31;go_wp2_with fail;go_ret;exact ⟨rfl,rfl⟩
 have g4:(n.toList==[101,108,115,101])=false:=by rw [Lib.toList_data,bqZ];exact h4
 have b4:=bqZ.2 h4;clear h4;by_cases h5:n.data.toList=[101,110,100]
 · have HT:ownB n.data.toList=true:=by rw [h5];decide
   rw [HT];have g5:(n.toList==[101,110,100])=true:=by rw [Lib.toList_data,h5];rfl
   clear HT h5;go_enter Tryz.func31,Tryz.ntmps31;go_wp2_with fail;go_ret;exact ⟨rfl,rfl⟩
 have g5:(n.toList==[101,110,100])=false:=by rw [Lib.toList_data,bqZ];exact h5
 have b5:=bqZ.2 h5;clear h5;by_cases h6:n.data.toList=[97,115]
 · have HT:ownB n.data.toList=true:=by rw [h6];decide
   rw [HT];have g6:(n.toList==[97,115])=true:=by rw [Lib.toList_data,h6];rfl
   clear HT h6;go_enter Tryz.func31,Tryz.ntmps31;go_wp2_with fail;go_ret;exact ⟨rfl,rfl⟩
 have g6:(n.toList==[97,115])=false:=by rw [Lib.toList_data,bqZ];exact h6
 have b6:=bqZ.2 h6;clear h6;by_cases h7:n.data.toList=[114,101,100,117,99,101]
 · have HT:ownB n.data.toList=true:=by rw [h7];decide
   rw [HT];have g7:(n.toList==[114,101,100,117,99,101])=true:=by rw [Lib.toList_data,h7];rfl
   clear HT h7;go_enter Tryz.func31,Tryz.ntmps31;go_wp2_with fail;go_ret;exact ⟨rfl,rfl⟩
 have g7:(n.toList==[114,101,100,117,99,101])=false:=by rw [Lib.toList_data,bqZ];exact h7
 have b7:=bqZ.2 h7;clear h7;by_cases h8:n.data.toList=[102,111,114,101,97,99,104]
 · have HT:ownB n.data.toList=true:=by rw [h8];decide
   rw [HT];have g8:(n.toList==[102,111,114,101,97,99,104])=true:=by rw [Lib.toList_data,h8];rfl
   clear HT h8;go_enter Tryz.func31,Tryz.ntmps31;go_wp2_with fail;go_ret;exact ⟨rfl,rfl⟩
 have g8:(n.toList==[102,111,114,101,97,99,104])=false:=by rw [Lib.toList_data,bqZ];exact h8
 have b8:=bqZ.2 h8;clear h8;by_cases h9:n.data.toList=[116,114,121]
 · have HT:ownB n.data.toList=true:=by rw [h9];decide
   rw [HT];have g9:(n.toList==[116,114,121])=true:=by rw [Lib.toList_data,h9];rfl
   clear HT h9;go_enter Tryz.func31,Tryz.ntmps31;go_wp2_with fail;go_ret;exact ⟨rfl,rfl⟩
 have g9:(n.toList==[116,114,121])=false:=by rw [Lib.toList_data,bqZ];exact h9
 have b9:=bqZ.2 h9;clear h9;by_cases h10:n.data.toList=[99,97,116,99,104]
 · have HT:ownB n.data.toList=true:=by rw [h10];decide
   rw [HT];have g10:(n.toList==[99,97,116,99,104])=true:=by rw [Lib.toList_data,h10];rfl
   clear HT h10;go_enter Tryz.func31,Tryz.ntmps31;go_wp2_with fail;go_ret;exact ⟨rfl,rfl⟩
 have g10:(n.toList==[99,97,116,99,104])=false:=by rw [Lib.toList_data,bqZ];exact h10
 have b10:=bqZ.2 h10;clear h10;by_cases h11:n.data.toList=[97,110,100]
 · have HT:ownB n.data.toList=true:=by rw [h11];decide
   rw [HT];have g11:(n.toList==[97,110,100])=true:=by rw [Lib.toList_data,h11];rfl
   clear HT h11;go_enter Tryz.func31,Tryz.ntmps31;go_wp2_with fail;go_ret;exact ⟨rfl,rfl⟩
 have g11:(n.toList==[97,110,100])=false:=by rw [Lib.toList_data,bqZ];exact h11
 have b11:=bqZ.2 h11;clear h11;by_cases h12:n.data.toList=[111,114]
 · have HT:ownB n.data.toList=true:=by rw [h12];decide
   rw [HT];have g12:(n.toList==[111,114])=true:=by rw [Lib.toList_data,h12];rfl
   clear HT h12;go_enter Tryz.func31,Tryz.ntmps31;go_wp2_with fail;go_ret;exact ⟨rfl,rfl⟩
 have g12:(n.toList==[111,114])=false:=by rw [Lib.toList_data,bqZ];exact h12
 have b12:=bqZ.2 h12;clear h12;by_cases h13:n.data.toList=[108,97,98,101,108]
 · have HT:ownB n.data.toList=true:=by rw [h13];decide
   rw [HT];have g13:(n.toList==[108,97,98,101,108])=true:=by rw [Lib.toList_data,h13];rfl
   clear HT h13;go_enter Tryz.func31,Tryz.ntmps31;go_wp2_with fail;go_ret;exact ⟨rfl,rfl⟩
 have g13:(n.toList==[108,97,98,101,108])=false:=by rw [Lib.toList_data,bqZ];exact h13
 have b13:=bqZ.2 h13;clear h13;by_cases h14:n.data.toList=[98,114,101,97,107]
 · have HT:ownB n.data.toList=true:=by rw [h14];decide
   rw [HT];have g14:(n.toList==[98,114,101,97,107])=true:=by rw [Lib.toList_data,h14];rfl
   clear HT h14;go_enter Tryz.func31,Tryz.ntmps31;go_wp2_with fail;go_ret;exact ⟨rfl,rfl⟩
 have g14:(n.toList==[98,114,101,97,107])=false:=by rw [Lib.toList_data,bqZ];exact h14
 have b14:=bqZ.2 h14;clear h14;by_cases h15:n.data.toList=[110,117,108,108]
 · have HT:ownB n.data.toList=true:=by rw [h15];decide
   rw [HT];have g15:(n.toList==[110,117,108,108])=true:=by rw [Lib.toList_data,h15];rfl
   clear HT h15;go_enter Tryz.func31,Tryz.ntmps31;go_wp2_with fail;go_ret;exact ⟨rfl,rfl⟩
 have g15:(n.toList==[110,117,108,108])=false:=by rw [Lib.toList_data,bqZ];exact h15
 have b15:=bqZ.2 h15;clear h15;by_cases h16:n.data.toList=[116,114,117,101]
 · have HT:ownB n.data.toList=true:=by rw [h16];decide
   rw [HT];have g16:(n.toList==[116,114,117,101])=true:=by rw [Lib.toList_data,h16];rfl
   clear HT h16;go_enter Tryz.func31,Tryz.ntmps31;go_wp2_with fail;go_ret;exact ⟨rfl,rfl⟩
 have g16:(n.toList==[116,114,117,101])=false:=by rw [Lib.toList_data,bqZ];exact h16
 have b16:=bqZ.2 h16;clear h16;by_cases h17:n.data.toList=[102,97,108,115,101]
 · have HT:ownB n.data.toList=true:=by rw [h17];decide
   rw [HT];have g17:(n.toList==[102,97,108,115,101])=true:=by rw [Lib.toList_data,h17];rfl
   clear HT h17;go_enter Tryz.func31,Tryz.ntmps31;go_wp2_with fail;go_ret;exact ⟨rfl,rfl⟩
 have g17:(n.toList==[102,97,108,115,101])=false:=by rw [Lib.toList_data,bqZ];exact h17
 have b17:=bqZ.2 h17;clear h17
 have HT:ownB n.data.toList=false:=by
  unfold ownB;simp only [ownL,List.cons_append,List.nil_append,List.contains_cons,List.contains_nil,b0,b1,b2,b3,b4,b5,b6,b7,b8,b9,b10,b11,b12,b13,b14,b15,b16,b17,Bool.or_false]
 rw [HT];clear HT b0 b1 b2 b3 b4 b5 b6 b7 b8 b9 b10 b11 b12 b13 b14 b15 b16 b17;go_enter Tryz.func31,Tryz.ntmps31;go_wp2_with fail;go_ret;exact ⟨rfl,rfl⟩
theorem q1w (c:UInt8) (w:World):
 Calls Tryz.prog 32 #[.int .u8 ((c.toNat:Nat):Int)] w fun e w'=>e= .returned (.bool (dgB c))∧w'=w:=by
 have ht:∀ b,dgB c=b→dgB c=b:=fun _ h=>h;unfold dgB at ht;have hlt:=c.toNat_lt;obtain ⟨x,hx⟩:∃ x:Int,((c.toNat:Nat):Int)=x:=⟨_,rfl⟩;rw [hx];have hcs:(48≤x∧x≤57)∨(48≤x∧¬ x≤57)∨(¬ 48≤x∧x≤57):=by omega
 rcases hcs with ⟨q0,q1⟩|⟨q0,q1⟩|⟨q0,q1⟩
 · have HT:dgB c=true:=by unfold dgB;exact decide_eq_true (by omega)
   rw [HT];clear HT ht hx hlt;go_enter Tryz.func32,Tryz.ntmps32;go_wp2_with fail;go_ret;exact ⟨by first|rfl|simp [*],rfl⟩
 · have HT:dgB c=false:=by unfold dgB;exact decide_eq_false (by omega)
   rw [HT];clear HT ht hx hlt;go_enter Tryz.func32,Tryz.ntmps32;go_wp2_with fail;go_ret;exact ⟨by first|rfl|simp [*],rfl⟩
 · have HT:dgB c=false:=by unfold dgB;exact decide_eq_false (by omega)
   rw [HT];clear HT ht hx hlt;go_enter Tryz.func32,Tryz.ntmps32;go_wp2_with fail;go_ret;exact ⟨by first|rfl|simp [*],rfl⟩
theorem q0G (c:UInt8) (w:World):
 Calls Tryz.prog 29 #[.int .u8 ((c.toNat:Nat):Int)] w fun e w'=>e= .returned (.bool (leB c))∧w'=w:=by
 have ht:∀ b,leB c=b→leB c=b:=fun _ h=>h;unfold leB at ht;have hlt:=c.toNat_lt;obtain ⟨x,hx⟩:∃ x:Int,((c.toNat:Nat):Int)=x:=⟨_,rfl⟩;rw [hx];have hcs:(97≤x∧x≤122)∨(97≤x∧¬ x≤122∧65≤x∧¬ x≤90∧¬ x=95)∨(¬ 97≤x∧65≤x∧x≤90)∨(¬ 97≤x∧65≤x∧¬ x≤90∧x=95)∨(¬ 97≤x∧65≤x∧¬ x≤90∧¬ x=95)∨(¬ 97≤x∧¬ 65≤x∧¬ x=95):=by omega
 rcases hcs with ⟨q0,q1⟩|⟨q0,q1,q2,q3,q4⟩|⟨q0,q1,q2⟩|⟨q0,q1,q2,q3⟩|⟨q0,q1,q2,q3⟩|⟨q0,q1,q2⟩
 · have HT:leB c=true:=by unfold leB;exact decide_eq_true (by omega)
   rw [HT];clear HT ht hx hlt;go_enter Tryz.func29,Tryz.ntmps29;go_wp2_with fail;go_ret;exact ⟨by first|rfl|simp [*],rfl⟩
 · have HT:leB c=false:=by unfold leB;exact decide_eq_false (by omega)
   rw [HT];clear HT ht hx hlt;go_enter Tryz.func29,Tryz.ntmps29;go_wp2_with fail;go_ret;exact ⟨by first|rfl|simp [*],rfl⟩
 · have HT:leB c=true:=by unfold leB;exact decide_eq_true (by omega)
   rw [HT];clear HT ht hx hlt;go_enter Tryz.func29,Tryz.ntmps29;go_wp2_with fail;go_ret;exact ⟨by first|rfl|simp [*],rfl⟩
 · have HT:leB c=true:=by unfold leB;exact decide_eq_true (by omega)
   rw [HT];subst q3;clear HT ht hx hlt q0 q1 q2;go_enter Tryz.func29,Tryz.ntmps29;go_wp2_with fail;go_ret;exact ⟨by first|rfl|simp [*],rfl⟩
 · have HT:leB c=false:=by unfold leB;exact decide_eq_false (by omega)
   rw [HT];clear HT ht hx hlt;go_enter Tryz.func29,Tryz.ntmps29;go_wp2_with fail;go_ret;exact ⟨by first|rfl|simp [*],rfl⟩
 · have HT:leB c=false:=by unfold leB;exact decide_eq_false (by omega)
   rw [HT];clear HT ht hx hlt;go_enter Tryz.func29,Tryz.ntmps29;go_wp2_with fail;go_ret;exact ⟨by first|rfl|simp [*],rfl⟩
theorem cut_all {l:List UInt8} {k:Nat} (hk:k≤l.length):(cut l 0 k=l)↔k=l.length:=by
 unfold cut;rw [List.drop_zero,Nat.sub_zero];constructor
 · intro h;have:=congrArg List.length h;rw [List.length_take] at this;omega
 · intro h;rw [h];exact List.take_length
theorem namedB_of {l:List UInt8} (h0:l≠[]) (h1:leB (l.getD 0 0)=true):namedB l=decide (bhP inB l 0=l.length):=by
 have hp:0<l.length:=List.length_pos_iff.2 h0;unfold namedB q0e;rw [if_pos ⟨hp,h1⟩];have:=cut_all (l:=l) (k:=bhP inB l 0) (q0R inB (by omega)).2;by_cases h:bhP inB l 0=l.length
 · rw [decide_eq_true h,decide_eq_true ⟨h0,this.2 h⟩]
 · rw [decide_eq_false h,decide_eq_false (fun g=>h (this.1 g.2))]
end Go.Proofs.YtbpopnafcpfifaaGreatDoor
namespace Go.Proofs.YtbpopnafcpfifaaGreatDoor
open Go.RowKit Go.Shelf
set_option maxRecDepth 100000
set_option maxHeartbeats 12800000
theorem id_blank {l:List UInt8} {p:Nat} (hp:p<l.length) (h:blB (l.getD p 0)=true):idW l p=idW l (p+1):=by unfold idW;rw [q0L hp h]
theorem id_rem {l:List UInt8} {p:Nat} (hp:p<l.length) (h:(l.getD p 0).toNat=35):idW l p=idW l (bhP rmB l p):=by
 unfold idW;rw [q0H hp (by unfold blB;rw [h];decide),idF_remark ⟨hp,h⟩]
theorem id_stop {l:List UInt8} {p:Nat} (hp:p<l.length) (h:blB (l.getD p 0)=false) (h2:(l.getD p 0).toNat≠35):idW l p=p:=by
 unfold idW;rw [q0H hp h,idF_rest (fun g=>h2 g.2)]
theorem id_end (l:List UInt8):idW l l.length=l.length:=by
 have:=q0Y (l:=l) (p:=l.length) (Nat.le_refl _);omega
theorem w_ridle (s:ByteArray) (p:Nat) (w:World) (hp:p≤s.size) (hs:s.size≤140737488355328):
 Calls Tryz.prog 13 #[.string s,.int .i64 (p:Int)] w fun e w'=>e= .returned (.int .i64 ((idW s.data.toList p:Nat):Int))∧w'=w:=by
 obtain ⟨l,hl⟩:∃ l,l=s.data.toList:=⟨_,rfl⟩;have HL:Hid (l.length=s.size):=by show _=_;rw [hl];exact q08 s
 have HG:Hid (∀ q (h:q<s.size),l.getD q 0=s[q]):=fun q h=>by rw [hl];exact q0f h
 rw [← hl];clear hl;go_enter Tryz.func13,Tryz.ntmps13;go_wp2_with fail
 go_loopw [1] (fun a wr=>∃ q:Nat,q≤s.size∧a= .int .i64 (q:Int)∧Hid (idW l p=idW l q)∧wr=w) (fun a _=>s.size-(intOf a).toNat)
 case atStart=>exact ⟨p,hp,rfl,rfl,rfl⟩
 case round=>
  obtain ⟨q,hq,rfl,HQ,hww⟩:=hrel;obtain rfl:=hww.symm;by_cases hlt:q<s.size
  · have hi1:(q:Int)<(s.size:Int):=by omega
    have hi0:(0:Int)≤(q:Int):=by omega
    have hql:q<l.length:=by rw [HL.out];exact hlt
    have hb:=id_blank hql;have hr:=id_rem hql;have hsp:=id_stop hql;rw [HG.out q hlt] at hb hr hsp;have HB:=hQz hb;have HR:=hQz hr;have HSP:=hQz hsp;clear hb hr hsp;by_cases h32:s[q].toNat=32
    · have HST:=hQz (HQ.out.trans (HB.out (by unfold blB;rw [h32];decide)));have hci:((s[q].toNat:Nat):Int)=32:=by omega
      clear h32;go_wp2_with fail;go_roundw
      case rel=>exact ⟨q+1,by omega,by go_num,HST,by first|rfl|trivial⟩
      case measure=>simp [intOf];omega
    have i32:¬ ((s[q].toNat:Nat):Int)=32:=by omega
    by_cases h9:s[q].toNat=9
    · have HST:=hQz (HQ.out.trans (HB.out (by unfold blB;rw [h9];decide)));have hci:((s[q].toNat:Nat):Int)=9:=by omega
      clear h9;go_wp2_with fail;go_roundw
      case rel=>exact ⟨q+1,by omega,by go_num,HST,by first|rfl|trivial⟩
      case measure=>simp [intOf];omega
    have i9:¬ ((s[q].toNat:Nat):Int)=9:=by omega
    by_cases h10:s[q].toNat=10
    · have HST:=hQz (HQ.out.trans (HB.out (by unfold blB;rw [h10];decide)));have hci:((s[q].toNat:Nat):Int)=10:=by omega
      clear h10;go_wp2_with fail;go_roundw
      case rel=>exact ⟨q+1,by omega,by go_num,HST,by first|rfl|trivial⟩
      case measure=>simp [intOf];omega
    have i10:¬ ((s[q].toNat:Nat):Int)=10:=by omega
    by_cases h13:s[q].toNat=13
    · have HST:=hQz (HQ.out.trans (HB.out (by unfold blB;rw [h13];decide)));have hci:((s[q].toNat:Nat):Int)=13:=by omega
      clear h13;go_wp2_with fail;go_roundw
      case rel=>exact ⟨q+1,by omega,by go_num,HST,by first|rfl|trivial⟩
      case measure=>simp [intOf];omega
    have i13:¬ ((s[q].toNat:Nat):Int)=13:=by omega
    by_cases h35:s[q].toNat=35
    · have HST:=hQz (HQ.out.trans (HR.out h35));have hgt:q<bhP rmB l q:=bhP_gt hql (by rw [HG.out q hlt];unfold rmB;rw [h35];decide);have hge:=q0R rmB (l:=l) (p:=q) (by omega);rw [HL.out] at hge;obtain ⟨r,hr⟩:∃ r,bhP rmB l q=r:=⟨_,rfl⟩;have HRq:Hid (bhP rmB l q=r):=hr;rw [hr] at HST hgt hge;have hci:((s[q].toNat:Nat):Int)=35:=by omega
      clear hr h35 h32 h9 h10 h13 i32 i9 i10 i13;go_wp2_with fail
      go_loopw [1] (fun a wr=>∃ z:Nat,q≤z∧z≤r∧a= .int .i64 (z:Int)∧Hid (bhP rmB l z=r)∧wr=w) (fun a _=>s.size-(intOf a).toNat)
      case atStart=>exact ⟨q,Nat.le_refl _,by omega,rfl,HRq,rfl⟩
      case round=>
       obtain ⟨z,hqz,hzr,rfl,HZ,hww⟩:=hrel;obtain rfl:=hww.symm;by_cases hzl:z<s.size
       · have hj1:(z:Int)<(s.size:Int):=by omega
         have hj0:(0:Int)≤(z:Int):=by omega
         have hzl2:z<l.length:=by rw [HL.out];exact hzl
         have hst:=q0L (P:=rmB) (l:=l) (p:=z) hzl2;have hsp:=q0H (P:=rmB) (l:=l) (p:=z) hzl2;rw [HG.out z hzl] at hst hsp;by_cases hn:s[z].toNat=10
         · have e:=hsp (by unfold rmB;rw [hn];decide);have hzr2:z=r:=by rw [← e];exact HZ.out
           have hni:((s[z].toNat:Nat):Int)=10:=by omega
           clear hst hsp hn e;subst hzr2;go_wp2_with fail;go_roundw
           case rel=>exact ⟨z,by omega,by first|rfl|go_num,HST,by first|rfl|trivial⟩
           case measure=>simp [intOf];omega
         · have e:=hst (by unfold rmB;exact decide_eq_true hn);have HZ2:Hid (bhP rmB l (z+1)=r):=by show _=_;rw [← e];exact HZ.out
           have hz3:z+1≤r:=by
            have:=q0R rmB (l:=l) (p:=z+1) (by omega);rw [HZ2.out] at this;exact this.1
           have hni:¬ ((s[z].toNat:Nat):Int)=10:=by omega
           clear hst hsp hn e;go_wp2_with fail;go_roundw
           case rel=>exact ⟨z+1,by omega,hz3,by go_num,HZ2,by first|rfl|trivial⟩
           case measure=>simp [intOf];omega
       · have hj1:¬ (z:Int)<(s.size:Int):=by omega
         have hzr2:z=r:=by omega
         subst hzr2;go_wp2_with fail;go_roundw
         case rel=>exact ⟨z,by omega,by first|rfl|go_num,HST,by first|rfl|trivial⟩
         case measure=>simp [intOf];omega
    have HE:=hQz (HQ.out.trans (HSP.out (by unfold blB;exact decide_eq_false (by omega)) h35));have i35:¬ ((s[q].toNat:Nat):Int)=35:=by omega
    clear h35 h32 h9 h10 h13;go_wp2_with fail;go_ret;exact ⟨by rw [HE.out];first|done|rfl,rfl⟩
  · have hi1:¬ (q:Int)<(s.size:Int):=by omega
    have HE:Hid (idW l p=q):=by
     show _=_;rw [HQ.out,show q=l.length by rw [HL.out];omega,id_end]
    go_wp2_with fail;go_ret;exact ⟨by rw [HE.out];first|done|rfl,rfl⟩
end Go.Proofs.YtbpopnafcpfifaaGreatDoor
