import Derived.Test.YtbpopnafcpfifaaGreatDoorM14
set_option linter.unusedVariables false
set_option linter.unusedSimpArgs false
namespace Go.Proofs.YtbpopnafcpfifaaGreatDoor
open Go.RowKit
set_option maxRecDepth 100000
set_option maxHeartbeats 12800000
theorem q1G {w w1:World} {B e size n:Nat} {v:Value} {xs:List Value} (h:w.ownsRow B e size v n xs) (hb:Below w.heap.size w w1):w1.ownsRow B e size v n xs:=by
 refine ⟨h.1,?_⟩;rcases h.2 with h0|⟨g,cap,cur,hv,hb',hg,rest⟩
 · exact .inl h0
 · refine .inr ⟨g,cap,cur,hv,hb',?_,rest⟩;rw [hb.block g (Array.getElem?_eq_some_iff.1 hg).1];exact hg
def stands (s:ByteArray) (f:Nat) (l:List UInt8):Prop:=f+l.length≤s.size∧∀ j,j<l.length→s.data.toList.getD (f+j) 0=l.getD j 0
instance (s:ByteArray) (f:Nat) (l:List UInt8):Decidable (stands s f l):=inferInstanceAs (Decidable (_∧_))
theorem stands_iff (s:ByteArray) (f:Nat) (l:List UInt8) (hf:f≤s.size):stands s f l↔∃ post,s.data.toList.drop f=l++post:=by
 have hsl:s.data.toList.length=s.size:=by rw [Array.length_toList];rfl
 constructor
 · rintro ⟨h1,h2⟩;refine ⟨s.data.toList.drop (f+l.length),?_⟩;rw [← List.drop_drop]
   have:l=(s.data.toList.drop f).take l.length:=by
    apply List.ext_getElem
    · rw [List.length_take,List.length_drop];omega
    · intro j h3 h4;have:=h2 j h3;rw [List.getElem_take,List.getElem_drop];rw [List.getD_eq_getElem?_getD,List.getD_eq_getElem?_getD,List.getElem?_eq_getElem (by omega),List.getElem?_eq_getElem h3] at this;exact this.symm
   exact (List.take_append_drop l.length (s.data.toList.drop f)).symm.trans (by rw [← this])
 · rintro ⟨post,h⟩;have hl:=congrArg List.length h;rw [List.length_drop,List.length_append,hsl] at hl;by_cases hl0:l.length=0
   · have e:l=[]:=List.eq_nil_of_length_eq_zero hl0;subst e;exact ⟨by simpa using hf,fun j hj=>by cases hj⟩
   · refine ⟨by omega,fun j hj=> ?_⟩;have:(s.data.toList.drop f).getD j 0=(l++post).getD j 0:=by rw [h]
     rw [List.getD_eq_getElem?_getD,List.getElem?_drop,List.getD_eq_getElem?_getD,List.getElem?_append_left hj] at this;rw [List.getD_eq_getElem?_getD,List.getD_eq_getElem?_getD];exact this
theorem w_same (s:ByteArray) (f g:Nat) (l:List UInt8) (w:World) (hB:BRow w g l) (hf:f≤s.size) (hs:s.size≤4611686018427387904) (hl:l.length≤1099511627776):
 Calls Tryz.prog 92 #[.string s,.int .i64 (f:Int),.slice (some ⟨g,0,none⟩) l.length l.length] w fun e w'=>e= .returned (.bool (decide (stands s f l)))∧Below w.heap.size w w':=by
 obtain ⟨N,hN⟩:∃ N,l.length=N:=⟨_,rfl⟩;have HN:=hQz hN;have HB:=hQz hB;rw [hN] at hl ⊢;clear hN hB;by_cases hfit:f+N≤s.size
 · have q0:¬ (s.size:Int)<(f:Int)+(N:Int):=by omega
   go_enter Tryz.func92,Tryz.ntmps92;go_wp2_with fail
   go_loopw [7] (fun i wr=>∃ (k:Nat),k≤N∧i= .int .i64 k∧Hid (Below w.heap.size w wr∧∀ j,j<k→s.data.toList.getD (f+j) 0=l.getD j 0)) (fun i _=>N-(intOf i).toNat)
   case atStart=>exact ⟨0,Nat.zero_le _,rfl,Below.refl _ _,fun j hj=>by cases hj⟩
   case round=>
    obtain ⟨k,hk,rfl,HQ⟩:=hrel;by_cases hlt:k<N
    · have hk1:(k:Int)<(N:Int):=by omega
      have hkl:k<l.length:=by rw [HN.out];exact hlt
      have hc1:=(HQ.out.1.cell (p:=⟨g,k,none⟩) HB.out.lt).trans (HB.out.cell k hkl);have hfk:f+k<s.size:=by omega
      have hfk2:(f:Int)+(k:Int)<(s.size:Int):=by omega
      have hg:s[f+k]'hfk=s.data.toList.getD (f+k) 0:=by
       have hll:f+k<s.data.toList.length:=by rw [Array.length_toList];exact hfk
       rw [List.getD_eq_getElem?_getD,List.getElem?_eq_getElem hll];rfl
      obtain ⟨a,ha⟩:∃ a,a=s[f+k]'hfk:=⟨_,rfl⟩;obtain ⟨b,hb⟩:∃ b,b=l.getD k 0:=⟨_,rfl⟩;rw [← hb] at hc1;obtain ⟨p,hp⟩:∃ p,p=f+k:=⟨_,rfl⟩;have hpi:(f:Int)+(k:Int)=(p:Int):=by omega
      have hps:p<s.size:=by omega
      have hps2:(p:Int)<(s.size:Int):=by omega
      have gp:s[p]'hps=a:=by subst hp;exact ha.symm
      have HGA:Hid (s.data.toList.getD (f+k) 0=a):=by show _=_;rw [ha,hg]
      by_cases hab:a=b
      · have q1:(((a.toNat:Nat):Int) != ((b.toNat:Nat):Int))=false:=by rw [hab];simp
        have HNx:Hid (∀ j,j<k+1→s.data.toList.getD (f+j) 0=l.getD j 0):=by
         intro j hj;rcases Nat.lt_or_ge j k with h|h
         · exact HQ.out.2 j h
         · have:j=k:=by omega
           subst this;rw [HGA.out,hab,hb]
        clear hab hb hg ha hkl hp hfk2;go_wp2_with fail;go_quiet (fail);have HQ2:Hid (Below w.heap.size w (wr.drewN nq)):=⟨HQ.out.1.os,HQ.out.1.tape,HQ.out.1.output,HQ.out.1.size,HQ.out.1.block⟩;go_wp2_with fail;go_roundw
        case measure=>simp [intOf];omega
        exact ⟨k+1,by omega,by go_num,HQ2.out,HNx.out⟩
      · have q1:(((a.toNat:Nat):Int) != ((b.toNat:Nat):Int))=true:=by
         rw [bne_iff_ne];intro e;apply hab;apply UInt8.toNat_inj.1;omega
        have HD:Hid (decide (stands s f l)=false):=by
         show _=_;refine decide_eq_false fun h=>hab ?_;rw [ha,hg,hb];exact h.2 k hkl
        clear hab hb hg ha hkl hp hfk2;go_wp2_with fail;go_quiet (fail);have HQ2:Hid (Below w.heap.size w (wr.drewN nq)):=⟨HQ.out.1.os,HQ.out.1.tape,HQ.out.1.output,HQ.out.1.size,HQ.out.1.block⟩;go_wp2_with fail;go_ret;exact ⟨by rw [HD.out];rfl,HQ2.out⟩
    · have hk1:¬ (k:Int)<(N:Int):=by omega
      have HD:Hid (decide (stands s f l)=true):=by
       show _=_;refine decide_eq_true ⟨by rw [HN.out];exact hfit,fun j hj=>HQ.out.2 j ?_⟩;rw [HN.out] at hj;omega
      go_wp2_with fail;go_ret;exact ⟨by rw [HD.out];rfl,HQ.out.1⟩
 · have q0:(s.size:Int)<(f:Int)+(N:Int):=by omega
   have HD:Hid (decide (stands s f l)=false):=by
    show _=_;refine decide_eq_false fun h=>hfit ?_;have:=h.1;rw [HN.out] at this;exact this
   clear hfit;go_enter Tryz.func92,Tryz.ntmps92;go_wp2_with fail;go_ret;exact ⟨by rw [HD.out];rfl,Below.refl _ _⟩
def nv (b:Nat→Nat) (sub:Nat):Nat→Int
 | 0=>(b 0:Int)-(sub:Int)
 | k+1=>64*nv b sub k+(b (k+1):Int)-128
def subN (N:Nat):Nat:=if N=2 then 192 else if N=3 then 224 else if N=4 then 240 else 0
theorem ofNat_toNat {x:Nat} (h:x<256):(UInt8.ofNat x).toNat=x:=by simp;omega
theorem enc_nv (m:Nat) (hR:isR m) (N:Nat) (h:(enc m).length=N) (b:Nat→Nat) (hb:∀ j,j<N→b j=((enc m).getD j 0).toNat):
 subN N≤b 0∧(∀ j,1≤j→j<N→128≤b j∧b j≤191)∧nv b (subN N) (N-1)=(m:Int):=by
 unfold isR at hR;unfold enc at h hb;by_cases h1:m<0x80
 · rw [if_pos h1] at h hb;obtain rfl:N=1:=by simpa using h.symm
   have e0:=hb 0 (by omega);simp only [List.getD_cons_zero] at e0;rw [ofNat_toNat (by omega)] at e0;refine ⟨by simp [subN],fun j h1 h2=>by omega,?_⟩;simp [nv,subN,e0]
 rw [if_neg h1] at h hb;by_cases h2:m<0x800
 · rw [if_pos h2] at h hb;obtain rfl:N=2:=by simpa using h.symm
   have e0:=hb 0 (by omega);have e1:=hb 1 (by omega);simp only [List.getD_cons_zero,List.getD_cons_succ] at e0 e1;rw [ofNat_toNat (by omega)] at e0 e1;refine ⟨by simp [subN];omega,fun j h1 h2=> ?_,?_⟩
   · obtain rfl:j=1:=by omega
     omega
   · simp [nv,subN,e0,e1];omega
 rw [if_neg h2] at h hb;by_cases h3:m<0x10000
 · rw [if_pos h3] at h hb;obtain rfl:N=3:=by simpa using h.symm
   have e0:=hb 0 (by omega);have e1:=hb 1 (by omega);have e2:=hb 2 (by omega);simp only [List.getD_cons_zero,List.getD_cons_succ] at e0 e1 e2;rw [ofNat_toNat (by omega)] at e0 e1 e2;refine ⟨by simp [subN];omega,fun j h1 h2=> ?_,?_⟩
   · rcases (show j=1∨j=2 by omega) with rfl|rfl <;> omega
   · simp [nv,subN,e0,e1,e2];omega
 · rw [if_neg h3] at h hb;obtain rfl:N=4:=by simpa using h.symm
   have e0:=hb 0 (by omega);have e1:=hb 1 (by omega);have e2:=hb 2 (by omega);have e3:=hb 3 (by omega);simp only [List.getD_cons_zero,List.getD_cons_succ] at e0 e1 e2 e3;rw [ofNat_toNat (by omega)] at e0 e1 e2 e3;refine ⟨by simp [subN];omega,fun j h1 h2=> ?_,?_⟩
   · rcases (show j=1∨j=2∨j=3 by omega) with rfl|rfl|rfl <;> omega
   · simp [nv,subN,e0,e1,e2,e3];omega
structure SpV (s:ByteArray) (f N:Nat) (v:Int):Prop where
 some:v= -1∨∃ m:Nat,v=(m:Int)∧isR m∧(enc m).length=N
 told:∀ m,isR m→(enc m).length=N→stands s f (enc m)→v=(m:Int)
def byt (s:ByteArray) (f j:Nat):Nat:=(s.data.toList.getD (f+j) 0).toNat
theorem spv_no {s:ByteArray} {f N:Nat} (h:∀ m,isR m→(enc m).length=N→stands s f (enc m)→False):SpV s f N (-1):=⟨.inl rfl,fun m a b c=>(h m a b c).elim⟩
theorem spv_enc {s:ByteArray} {f N m:Nat} (hR:isR m) (h:(enc m).length=N) (hs:stands s f (enc m)):
 subN N≤byt s f 0∧(∀ j,1≤j→j<N→128≤byt s f j∧byt s f j≤191)∧nv (byt s f) (subN N) (N-1)=(m:Int):=
 enc_nv m hR N h (byt s f) (fun j hj=>by unfold byt;rw [hs.2 j (by omega)])
theorem valid_nat {z:Int} (h:Lib.validRune z=true):∃ m:Nat,z=(m:Int)∧isR m:=by
 have h:decide ((0≤z∧z<0xD800)∨(0xDFFF<z∧z≤0x10FFFF))=true:=h;have h:=of_decide_eq_true h;exact ⟨z.toNat,by omega,by unfold isR;omega⟩
theorem valid_isR {m:Nat} (h:isR m):Lib.validRune (m:Int)=true:=by rw [← valid_rn];exact valid_of h
structure SpSt (s:ByteArray) (f N:Nat) (w wr:World) (k:Nat) (z:Int):Prop where
 val:z=nv (byt s f) (subN N) (k-1)
 top:z+1≤((256*64 ^ (k-1):Nat):Int)
 below:Below w.heap.size w wr
theorem spst_le {s:ByteArray} {f N k:Nat} {w wr:World} {z:Int} (h:SpSt s f N w wr k z) (hk:k≤4):z≤67108864:=by
 have h1:=h.top;have h2:64 ^ (k-1)≤64 ^ 3:=Nat.pow_le_pow_right (by decide) (by omega);have h3:(64:Nat) ^ 3=262144:=by decide
 omega
theorem spst_up {s:ByteArray} {f N k:Nat} {w wr:World} {z:Int} (h:SpSt s f N w wr k z) (hk:1≤k) {c:Nat} (hc:c=byt s f k) (hc2:c≤191):SpSt s f N w wr (k+1) (64*z+(c:Int)-128):=by
 obtain ⟨j,rfl⟩:∃ j,k=j+1:=⟨k-1,by omega⟩;have h1:=h.top;have h0:=h.val;rw [show j+1-1=j by omega] at h0 h1;refine ⟨?_,?_,h.below⟩
 · rw [show j+1+1-1=j+1 by omega];show _=64*nv (byt s f) (subN N) j+(byt s f (j+1):Int)-128;rw [← h0,hc]
 · rw [show j+1+1-1=j+1 by omega,Nat.pow_succ];omega
theorem byte_at {s:ByteArray} {f k:Nat} (h:f+k<s.size):((s[f+k]'h).toNat)=byt s f k:=by
 have hll:f+k<s.data.toList.length:=by rw [Array.length_toList];exact h
 unfold byt;rw [List.getD_eq_getElem?_getD,List.getElem?_eq_getElem hll];rfl
theorem w_spelled (s:ByteArray) (f N:Nat) (w:World) (hN1:1≤N) (hN4:N≤4) (hf:f+N≤s.size) (hs:s.size≤4611686018427387904):
 Calls Tryz.prog 91 #[.string s,.int .i64 (f:Int),.int .i64 (N:Int)] w fun e w'=>∃ v:Int,e= .returned (.int .i64 v)∧Hid (SpV s f N v)∧Below w.heap.size w w':=by
 have hf0:f<s.size:=by omega
 have hf1:(f:Int)<(s.size:Int):=by omega
 obtain ⟨a,ha⟩:∃ a,a=s[f]'hf0:=⟨_,rfl⟩;have ga:s[f]'hf0=a:=ha.symm;have hA0:a.toNat=byt s f 0:=by rw [ha];exact byte_at (k:=0) hf0
 have HA:=hQz hA0;have hab:a.toNat<256:=a.toNat_lt;clear ha hA0;obtain ⟨A,hA⟩:∃ A:Int,A=(a.toNat:Int):=⟨_,rfl⟩
 have hcases:(((N:Int)==2)=false∧((N:Int)==3)=false∧((N:Int)==4)=false∧Hid ((a.toNat:Int)<0↔a.toNat<subN N)∧Hid ((a.toNat:Int)=nv (byt s f) (subN N) 0))
  ∨ (((N:Int)==2)=true∧((N:Int)==3)=false∧((N:Int)==4)=false∧Hid ((a.toNat:Int)-192<0↔a.toNat<subN N)∧Hid ((a.toNat:Int)-192=nv (byt s f) (subN N) 0))
  ∨ (((N:Int)==2)=false∧((N:Int)==3)=true∧((N:Int)==4)=false∧Hid ((a.toNat:Int)-224<0↔a.toNat<subN N)∧Hid ((a.toNat:Int)-224=nv (byt s f) (subN N) 0))
  ∨ (((N:Int)==2)=false∧((N:Int)==3)=false∧((N:Int)==4)=true∧Hid ((a.toNat:Int)-240<0↔a.toNat<subN N)∧Hid ((a.toNat:Int)-240=nv (byt s f) (subN N) 0)):=by
  have e:=HA.out;rcases (show N=1∨N=2∨N=3∨N=4 by omega) with rfl|rfl|rfl|rfl
  · refine .inl ⟨by decide,by decide,by decide,?_,?_⟩
    · show _↔_;simp [subN]
    · show _=_;simp [subN,nv,e]
  · refine .inr (.inl ⟨by decide,by decide,by decide,?_,?_⟩)
    · show _↔_;simp [subN];omega
    · show _=_;simp [subN,nv,e]
  · refine .inr (.inr (.inl ⟨by decide,by decide,by decide,?_,?_⟩))
    · show _↔_;simp [subN];omega
    · show _=_;simp [subN,nv,e]
  · refine .inr (.inr (.inr ⟨by decide,by decide,by decide,?_,?_⟩))
    · show _↔_;simp [subN];omega
    · show _=_;simp [subN,nv,e]
 clear hA A;rcases hcases with ⟨e2,e3,e4,HI,HZ⟩|⟨e2,e3,e4,HI,HZ⟩|⟨e2,e3,e4,HI,HZ⟩|⟨e2,e3,e4,HI,HZ⟩
 all_goals
  by_cases hneg:a.toNat<subN N
  · have q0:=HI.out.2 hneg
    have HNo:Hid (SpV s f N (-1)):=spv_no fun m h1 h2 h3=>by
     have:=(spv_enc h1 h2 h3).1;have:=HA.out;omega
    clear hneg;go_enter Tryz.func91,Tryz.ntmps91;go_wp2_with fail;go_ret;exact ⟨_,rfl,HNo,Below.refl _ _⟩
  · have q0:=fun h=>hneg (HI.out.1 h);clear hneg;go_enter Tryz.func91,Tryz.ntmps91;go_wp2_with fail;clear e2 e3 e4
    go_loopw [7,8,9] (fun n i _ wr=>∃ (k:Nat) (z:Int),1≤k∧k≤N∧0≤z∧n= .int .i64 z∧i= .int .i64 (k:Int)∧Hid (SpSt s f N w wr k z)) (fun _ i _ _=>N-(intOf i).toNat)
    case atStart=>exact ⟨1,_,Nat.le_refl _,hN1,by omega,rfl,rfl,HZ.out,by simp;omega,Below.refl _ _⟩
    case round=>
     clear q0 HZ HI;obtain ⟨k,z,hk1,hkN,hz0,rfl,rfl,HQ⟩:=hrel;have hzt:=spst_le HQ.out (by omega);by_cases hlt:k<N
     · have hl1:(k:Int)<(N:Int):=by omega
       obtain ⟨p,hp⟩:∃ p,p=f+k:=⟨_,rfl⟩;have hpi:(f:Int)+(k:Int)=(p:Int):=by omega
       have hps:p<s.size:=by omega
       have hps2:(p:Int)<(s.size:Int):=by omega
       obtain ⟨c,hc⟩:∃ c,c=s[p]'hps:=⟨_,rfl⟩;have gp:s[p]'hps=c:=hc.symm
       have HCk:Hid (c.toNat=byt s f k):=by
        show _=_;subst hp;rw [hc];exact byte_at hps
       have hcb:c.toNat<256:=c.toNat_lt;clear hc hp;by_cases hc1:c.toNat<128
       · have r1:(c.toNat:Int)<128:=by omega
         have HNo:Hid (SpV s f N (-1)):=spv_no fun m h1 h2 h3=>by
          have:=(spv_enc h1 h2 h3).2.1 k hk1 hlt;have:=HCk.out;omega
         go_wp2_with fail;go_ret;exact ⟨_,rfl,HNo,HQ.out.below⟩
       · have r1:¬ (c.toNat:Int)<128:=by omega
         by_cases hc2:191<c.toNat
         · have r2:(191:Int)<(c.toNat:Int):=by omega
           have HNo:Hid (SpV s f N (-1)):=spv_no fun m h1 h2 h3=>by
            have:=(spv_enc h1 h2 h3).2.1 k hk1 hlt;have:=HCk.out;omega
           go_wp2_with fail;go_ret;exact ⟨_,rfl,HNo,HQ.out.below⟩
         · have r2:¬ (191:Int)<(c.toNat:Int):=by omega
           have HNx:=hQz (spst_up HQ.out hk1 HCk.out (by omega));go_wp2_with fail;go_roundw
           case rel=>exact ⟨k+1,_,by omega,hlt,by omega,rfl,by go_num,HNx⟩
           case measure=>simp [intOf];omega
     · have hl1:¬ (k:Int)<(N:Int):=by omega
       have HV:Hid (z=nv (byt s f) (subN N) (N-1)):=by
        have:=HQ.out.val;rw [show k=N by omega] at this;exact this
       have HTold:Hid (∀ m,isR m→(enc m).length=N→stands s f (enc m)→z=(m:Int)):=fun m h1 h2 h3=>by
        rw [HV.out];exact (spv_enc h1 h2 h3).2.2
       have HBw:=hQz HQ.out.below
       cases hv:Lib.validRune z with
       | false=>
        have HIs:=hQz (fun u=>q2j z u);rw [hv] at HIs
        have HNo:Hid (SpV s f N (-1)):=spv_no fun m h1 h2 h3=>by
         have h4:=HTold.out m h1 h2 h3;rw [h4,valid_isR h1] at hv
         cases hv
        clear hv;go_wp2_with fail;refine (HIs.out _).mono ?_;rintro e w1 ⟨rfl,hw⟩;obtain rfl:=hw.symm;go_wp2_with fail;go_ret;exact ⟨_,rfl,HNo,HBw.out⟩
       | true=>
        have HIs:=hQz (fun u=>q2j z u);rw [hv] at HIs;obtain ⟨m,rfl,hm⟩:=valid_nat hv;have hm2:m≤1114111:=by unfold isR at hm;omega
        have HSz:=hQz (fun u=>w_Size m u hm2);have HM:=hQz hm;obtain ⟨L,hL⟩:∃ L,L=(enc m).length:=⟨_,rfl⟩;rw [← hL] at HSz;have HL:=hQz hL;clear hv hm hL;go_wp2_with fail;refine (HIs.out _).mono ?_;rintro e w1 ⟨rfl,hw⟩;obtain rfl:=hw.symm;go_wp2_with fail;refine (HSz.out _).mono ?_;rintro e w1 ⟨rfl,hw⟩;obtain rfl:=hw.symm;by_cases hLN:L=N
        · have r3:((L:Int) != (N:Int))=false:=by rw [hLN];simp
          have HYes:Hid (SpV s f N (m:Int)):=⟨.inr ⟨m,rfl,HM.out,by rw [← HL.out,hLN]⟩,HTold.out⟩;clear hLN;go_wp2_with fail;go_ret;exact ⟨_,rfl,HYes,HBw.out⟩
        · have r3:((L:Int) != (N:Int))=true:=by rw [bne_iff_ne];omega
          have HNo:Hid (SpV s f N (-1)):=spv_no fun m' h1 h2 h3=>by
           have h4:=HTold.out m' h1 h2 h3;have h5:m=m':=by omega
           subst h5;exact hLN (HL.out.trans h2)
          clear hLN;go_wp2_with fail;go_ret;exact ⟨_,rfl,HNo,HBw.out⟩
theorem none_there {s:ByteArray} {f:Nat} (hf:f<s.size) (h:∀ m,isR m→¬ stands s f (enc m)):decL (s.data.toList.drop f)=(65533,1)∧q0p (s.data.toList.drop f)=true:=by
 rcases q1Z _ (drop_ne hf) with ⟨n,post,hn,hl,_⟩|h2
 · exact absurd ((stands_iff s f (enc n) (by omega)).2 ⟨post,hl⟩) (h n hn)
 · exact h2
theorem some_there {s:ByteArray} {f m:Nat} (hf:f<s.size) (hm:isR m) (h:stands s f (enc m)):decL (s.data.toList.drop f)=(m,(enc m).length)∧q0p (s.data.toList.drop f)=false:=by
 obtain ⟨post,hl⟩:=(stands_iff s f (enc m) (by omega)).1 h;rw [hl];exact ⟨q1m m hm post,stray_enc m hm post⟩
def pcV (s:ByteArray) (f:Nat):Value:= .agg #[.int .i64 (f:Int),.int .i64 ((f+(decL (s.data.toList.drop f)).2:Nat):Int),.int .i64 ((decL (s.data.toList.drop f)).1:Int),.bool (q0p (s.data.toList.drop f))]
def pz:Obj:= .cells #[.int .i64 0,.int .i64 0,.int .i64 0,.bool false] 69
structure PB (w u:World):Prop where
 row:u.heap[w.heap.size]? =some pz
 below:Below w.heap.size w u
theorem PB.keep {w u u':World} (h:PB w u) (hb:Below u.heap.size u u'):PB w u':=
 ⟨by have hl:=(Array.getElem?_eq_some_iff.1 h.row).1
     rw [hb.block _ hl];exact h.row,h.below.trans (hb.mono h.below.size)⟩
theorem PB.new (w:World):PB w (w.alloc pz):=⟨heap_alloc_new w pz,q0a w pz⟩
theorem PB.cell {w u:World} (h:PB w u) (i:Nat) (v:Value) (hv:(#[.int .i64 0,.int .i64 0,.int .i64 0,.bool false]:Array Value)[i]? =some v):u.cell? ⟨w.heap.size,i,none⟩=some v:=by
 rw [cell_of_row u w.heap.size i _ _ _ h.row];exact hv
theorem PB.free {w u:World} (h:PB w u) (i:Nat):u.frozen? ⟨w.heap.size,i,none⟩=false:=frozen_of_row u w.heap.size i _ _ h.row
theorem pfill {u:World} {g:Nat} {x0 x1 x2 x3 a b c d:Value} (c0:u.cell? ⟨g,0,none⟩=some x0) (c1:u.cell? ⟨g,1,none⟩=some x1) (c2:u.cell? ⟨g,2,none⟩=some x2) (c3:u.cell? ⟨g,3,none⟩=some x3):
 ((((u.setCell ⟨g,0,none⟩ a).setCell ⟨g,1,none⟩ b).setCell ⟨g,2,none⟩ c).setCell ⟨g,3,none⟩ d).cell? ⟨g,0,none⟩=some a∧
 ((((u.setCell ⟨g,0,none⟩ a).setCell ⟨g,1,none⟩ b).setCell ⟨g,2,none⟩ c).setCell ⟨g,3,none⟩ d).cell? ⟨g,1,none⟩=some b∧
 ((((u.setCell ⟨g,0,none⟩ a).setCell ⟨g,1,none⟩ b).setCell ⟨g,2,none⟩ c).setCell ⟨g,3,none⟩ d).cell? ⟨g,2,none⟩=some c∧
 ((((u.setCell ⟨g,0,none⟩ a).setCell ⟨g,1,none⟩ b).setCell ⟨g,2,none⟩ c).setCell ⟨g,3,none⟩ d).cell? ⟨g,3,none⟩=some d:=by
 have d1:(u.setCell ⟨g,0,none⟩ a).cell? ⟨g,1,none⟩=some x1:=by rw [World.cell?_setCell_other _ _ _ _ (by simp)];exact c1
 have d2:((u.setCell ⟨g,0,none⟩ a).setCell ⟨g,1,none⟩ b).cell? ⟨g,2,none⟩=some x2:=by rw [World.cell?_setCell_other _ _ _ _ (by simp),World.cell?_setCell_other _ _ _ _ (by simp)];exact c2
 have d3:(((u.setCell ⟨g,0,none⟩ a).setCell ⟨g,1,none⟩ b).setCell ⟨g,2,none⟩ c).cell? ⟨g,3,none⟩=some x3:=by rw [World.cell?_setCell_other _ _ _ _ (by simp),World.cell?_setCell_other _ _ _ _ (by simp),World.cell?_setCell_other _ _ _ _ (by simp)];exact c3
 refine ⟨?_,?_,?_,World.cell?_setCell_same _ _ _ d3⟩
 · rw [World.cell?_setCell_other _ _ _ _ (by simp),World.cell?_setCell_other _ _ _ _ (by simp),World.cell?_setCell_other _ _ _ _ (by simp)];exact World.cell?_setCell_same _ _ _ c0
 · rw [World.cell?_setCell_other _ _ _ _ (by simp),World.cell?_setCell_other _ _ _ _ (by simp)];exact World.cell?_setCell_same _ _ _ d1
 · rw [World.cell?_setCell_other _ _ _ _ (by simp)];exact World.cell?_setCell_same _ _ _ d2
theorem pbelow {w u:World} (h:Below w.heap.size w u) (a b c d:Value):Below w.heap.size w ((((u.setCell ⟨w.heap.size,0,none⟩ a).setCell ⟨w.heap.size,1,none⟩ b).setCell ⟨w.heap.size,2,none⟩ c).setCell ⟨w.heap.size,3,none⟩ d):=
 (((h.setCell (Nat.le_refl _) _).setCell (Nat.le_refl _) _).setCell (Nat.le_refl _) _).setCell (Nat.le_refl _) _
structure AtSt (s:ByteArray) (f:Nat) (w wr:World) (j:Nat):Prop where
 box:PB w wr
 no:∀ m,isR m→(enc m).length<j→¬ stands s f (enc m)
theorem enc_len4 (m:Nat):1≤(enc m).length∧(enc m).length≤4:=by
 unfold enc
 split
 · simp
 · split
   · simp
   · split <;> simp
theorem w_at (s:ByteArray) (f:Nat) (w:World) (hf:f<s.size) (hs:s.size≤4611686018427387900):
 Calls Tryz.prog 62 #[.string s,.int .i64 (f:Int)] w fun e w'=>e= .returned (pcV s f)∧Below w.heap.size w w':=by
 have HP0:=hQz (PB.new w);unfold pz at HP0;go_enter Tryz.func62,Tryz.ntmps62;go_wp2_with fail
 go_loopw [5,6] (fun k _ wr=>∃ j:Nat,1≤j∧j≤5∧k= .int .i64 (j:Int)∧Hid (AtSt s f w wr j)) (fun k _ _=>5-(intOf k).toNat)
 case atStart=>exact ⟨1,Nat.le_refl _,by omega,rfl,HP0.out,fun m _ h=>by have:=enc_len4 m;omega⟩
 case round=>
  obtain ⟨j,hj1,hj5,rfl,HQ⟩:=hrel;by_cases hj4:j≤4
  · have r1:(j:Int)≤4:=by omega
    by_cases hin:f+j≤s.size
    · have r2:(f:Int)+(j:Int)≤(s.size:Int):=by omega
      have HSp:=hQz (w_spelled s f j wr hj1 hj4 hin (by omega));go_wp2_with fail;refine HSp.out.mono ?_;rintro e w1 ⟨v,rfl,HV,hb1⟩;have HP1:=hQz (HQ.out.box.keep hb1);clear hb1 HSp;rcases HV.out.some with hv|⟨m,hv,hm,hl⟩
      · have HN:Hid (AtSt s f w w1 (j+1)):=⟨HP1.out,fun m h1 h2 h3=>by
         rcases Nat.lt_or_ge (enc m).length j with g|g
         · exact HQ.out.no m h1 g h3
         · have:=HV.out.told m h1 (by omega) h3;omega⟩
        clear HV;subst hv;go_wp2_with fail;go_roundw
        case rel=>exact ⟨j+1,by omega,by omega,by go_num,HN⟩
        case measure=>simp [intOf];omega
      · subst hv;have r3:(0:Int)≤(m:Int):=by omega
        have HE:=hQz (w_Encoding (m:Int) w1);rw [rn_nat hm] at HE;have HM:=hQz hm;have HL:=hQz hl;clear hm hl;go_wp2_with fail;refine HE.out.mono ?_;rintro e w2 ⟨g,rfl,hg,HB,hb2⟩;have HP2:=hQz (HP1.out.keep hb2);have HSm:=hQz (w_same s f g (enc m) w2 HB.out (by omega) (by omega) (by have:=enc_len4 m;omega));clear hb2 HE;go_wp2_with fail;refine HSm.out.mono ?_;rintro e w3 ⟨rfl,hb3⟩;have HP3:=hQz (HP2.out.keep hb3);clear hb3 HSm;by_cases hst:stands s f (enc m)
        · rw [decide_eq_true hst];have c0:=HP3.out.cell 0 _ rfl;have c1:=HP3.out.cell 1 _ rfl;have c2:=HP3.out.cell 2 _ rfl;have c3:=HP3.out.cell 3 _ rfl;have f0:=HP3.out.free 0;have f1:=HP3.out.free 1;have f2:=HP3.out.free 2;have f3:=HP3.out.free 3;obtain ⟨p0,p1,p2,p3⟩:=pfill (a:= .int .i64 (f:Int)) (b:= .int .i64 ((f:Int)+(j:Int))) (c:= .int .i64 (m:Int)) (d:= .bool false) c0 c1 c2 c3;have HBf:=hQz (pbelow HP3.out.below (.int .i64 (f:Int)) (.int .i64 ((f:Int)+(j:Int))) (.int .i64 (m:Int)) (.bool false))
          have HPc:Hid (pcV s f= .agg #[.int .i64 (f:Int),.int .i64 ((f:Int)+(j:Int)),.int .i64 (m:Int),.bool false]):=by
           show _=_;obtain ⟨t1,t2⟩:=some_there hf HM.out hst;unfold pcV;rw [t1,t2,HL.out];simp
          clear hst;go_wp2_with fail;refine bodyPost_ret (v:= .agg #[.int .i64 (f:Int),.int .i64 ((f:Int)+(j:Int)),.int .i64 (m:Int),.bool false]) (by simp [results,Tryz.results62,go_sem,p0,p1,p2,p3]) rfl ?_;exact ⟨by rw [HPc.out],HBf.out⟩
        · rw [decide_eq_false hst]
          have HN:Hid (AtSt s f w w3 (j+1)):=⟨HP3.out,fun m' h1 h2 h3=>by
           rcases Nat.lt_or_ge (enc m').length j with g|g
           · exact HQ.out.no m' h1 g h3
           · have h4:=HV.out.told m' h1 (by omega) h3;have h5:m=m':=by omega
             subst h5;exact hst h3⟩
          clear hst;go_wp2_with fail;go_roundw
          case rel=>exact ⟨j+1,by omega,by omega,by go_num,HN⟩
          case measure=>simp [intOf];omega
    · have r2:¬ (f:Int)+(j:Int)≤(s.size:Int):=by omega
      have HNo:Hid (∀ m,isR m→¬ stands s f (enc m)):=fun m h1 h3=>by
       rcases Nat.lt_or_ge (enc m).length j with g|g
       · exact HQ.out.no m h1 g h3
       · have:=h3.1;omega
      obtain ⟨HP3⟩:Nonempty (Hid (PB w wr)):=⟨HQ.out.box⟩;have c0:=HP3.out.cell 0 _ rfl;have c1:=HP3.out.cell 1 _ rfl;have c2:=HP3.out.cell 2 _ rfl;have c3:=HP3.out.cell 3 _ rfl;have f0:=HP3.out.free 0;have f1:=HP3.out.free 1;have f2:=HP3.out.free 2;have f3:=HP3.out.free 3;obtain ⟨p0,p1,p2,p3⟩:=pfill (a:= .int .i64 (f:Int)) (b:= .int .i64 ((f:Int)+1)) (c:= .int .i64 65533) (d:= .bool true) c0 c1 c2 c3;have HBf:=hQz (pbelow HP3.out.below (.int .i64 (f:Int)) (.int .i64 ((f:Int)+1)) (.int .i64 65533) (.bool true))
      have HPc:Hid (pcV s f= .agg #[.int .i64 (f:Int),.int .i64 ((f:Int)+1),.int .i64 65533,.bool true]):=by
       show _=_;obtain ⟨t1,t2⟩:=none_there hf HNo.out;unfold pcV;rw [t1,t2];simp
      go_wp2_with fail;refine bodyPost_ret (v:= .agg #[.int .i64 (f:Int),.int .i64 ((f:Int)+1),.int .i64 65533,.bool true]) (by simp [results,Tryz.results62,go_sem,p0,p1,p2,p3]) rfl ?_;exact ⟨by rw [HPc.out],HBf.out⟩
  · have r1:¬ (j:Int)≤4:=by omega
    have HNo:Hid (∀ m,isR m→¬ stands s f (enc m)):=fun m h1 h3=>HQ.out.no m h1 (by have:=enc_len4 m;omega) h3
    obtain ⟨HP3⟩:Nonempty (Hid (PB w wr)):=⟨HQ.out.box⟩;have c0:=HP3.out.cell 0 _ rfl;have c1:=HP3.out.cell 1 _ rfl;have c2:=HP3.out.cell 2 _ rfl;have c3:=HP3.out.cell 3 _ rfl;have f0:=HP3.out.free 0;have f1:=HP3.out.free 1;have f2:=HP3.out.free 2;have f3:=HP3.out.free 3;obtain ⟨p0,p1,p2,p3⟩:=pfill (a:= .int .i64 (f:Int)) (b:= .int .i64 ((f:Int)+1)) (c:= .int .i64 65533) (d:= .bool true) c0 c1 c2 c3;have HBf:=hQz (pbelow HP3.out.below (.int .i64 (f:Int)) (.int .i64 ((f:Int)+1)) (.int .i64 65533) (.bool true))
    have HPc:Hid (pcV s f= .agg #[.int .i64 (f:Int),.int .i64 ((f:Int)+1),.int .i64 65533,.bool true]):=by
     show _=_;obtain ⟨t1,t2⟩:=none_there hf HNo.out;unfold pcV;rw [t1,t2];simp
    go_wp2_with fail;refine bodyPost_ret (v:= .agg #[.int .i64 (f:Int),.int .i64 ((f:Int)+1),.int .i64 65533,.bool true]) (by simp [results,Tryz.results62,go_sem,p0,p1,p2,p3]) rfl ?_;exact ⟨by rw [HPc.out],HBf.out⟩
theorem Tryz.infoP:(Tryz.prog.info? 69).map (fun i=>(i.zero,i.size,i.bytes))=some (some (.agg #[.int .i64 0,.int .i64 0,.int .i64 0,.bool false]),4,32):=by kernel_rfl
theorem sizeL (s:ByteArray):s.data.toList.length=s.size:=by rw [Array.length_toList];rfl
def pcC (s:ByteArray) (f:Nat):List Value:=[.int .i64 (f:Int),.int .i64 ((f+(decL (s.data.toList.drop f)).2:Nat):Int),.int .i64 ((decL (s.data.toList.drop f)).1:Int),.bool (q0p (s.data.toList.drop f))]
def prow (s:ByteArray) (n:Nat):List Value:=(List.range n).flatMap fun k=>pcC s (off s.data.toList k)
theorem prow_up (s:ByteArray) (n:Nat):prow s (n+1)=prow s n++pcC s (off s.data.toList n):=by unfold prow;rw [List.range_succ,List.flatMap_append];simp
theorem new4q (w1:World) (o:Obj) (a b c d:Value):∀ (j:Nat) (u:Value),([a,b,c,d]:List Value)[j]? =some u→((w1.alloc o).alloc (.cells #[a,b,c,d] 69)).cell? ((⟨w1.heap.size+1,0,none⟩:Addr).add j)=some u:=by
 intro j u hj;have h:=heap_alloc_new (w1.alloc o) (.cells #[a,b,c,d] 69);rw [World.size_alloc] at h
 have e:(⟨w1.heap.size+1,0,none⟩:Addr).add j=⟨w1.heap.size+1,j,none⟩:=by
  unfold Addr.add;by_cases h0:j=0 <;> simp [h0]
 rw [e,cell_of_row _ _ _ _ _ _ h]
 match j,hj with
 | 0,hj=>exact hj
 | 1,hj=>exact hj
 | 2,hj=>exact hj
 | 3,hj=>exact hj
 | j+4,hj=>simp at hj
theorem kept4 {w1 w4:World} {B n:Nat} {e ty:TypeId} {size:Nat} {v:Value} {xs:List Value} {a b c d:Value} {o:Obj} (hown:w1.ownsRow B e size v n xs) (hg:((w1.alloc (.cells #[a,b,c,d] ty)).alloc o).grownBy w4 v.ownBlock):w4.cell? ⟨w1.heap.size,1,none⟩=some b:=by
 have hne:some w1.heap.size≠v.ownBlock:=by
  rcases hown.2 with ⟨rfl,_⟩|⟨g,cap,cur,rfl,_,hb,_⟩
  · simp [Value.ownBlock]
  · have:=(Array.getElem?_eq_some_iff.1 hb).1;simp [Value.ownBlock];omega
 have h:=hg.block w1.heap.size (by simp;omega) hne;rw [Below.heap_alloc _ _ _ (by simp),heap_alloc_new] at h;rw [cell_of_row _ _ _ _ _ _ h];rfl
structure PcSt (s:ByteArray) (w wr:World) (v:Value) (j pos:Nat):Prop where
 own:wr.ownsRow w.heap.size 69 4 v j (prow s j)
 at_:pos=off s.data.toList j
 few:j≤(q29 s.data.toList).length
 below:Below w.heap.size w wr
theorem w_Pieces (s:ByteArray) (w:World) (hs:s.size≤1099511627776):
 Calls Tryz.prog 28 #[.string s] w fun e w'=>∃ so sc,e= .returned (.slice so (q29 s.data.toList).length sc)∧Hid (w'.ownsRow w.heap.size 69 4 (.slice so (q29 s.data.toList).length sc) (q29 s.data.toList).length (prow s (q29 s.data.toList).length))∧Below w.heap.size w w':=by
 obtain ⟨i0,hi0,hz0,hz1,hz2⟩:=info_parts Tryz.infoP;have hrl:=runes_len_le s.data.toList;rw [sizeL] at hrl;have HRL:=hQz hrl;clear hrl
 have HS:Hid (PcSt s w (w.alloc (.cells #[] 69)) (.slice (some ⟨w.heap.size,0,none⟩) 0 0) 0 0):=
  ⟨⟨rfl,.inr ⟨w.heap.size,0,#[],rfl,Nat.le_refl _,heap_alloc_new w _,Nat.le_refl _,by unfold maxLen;omega,rfl,rfl⟩⟩,rfl,Nat.zero_le _,q0a w _⟩
 go_enter Tryz.func28,Tryz.ntmps28;go_wp2_with fail
 go_loopw [3,4,5] (fun l b _ wr=>∃ (j pos:Nat) (ao:Option Addr) (cap:Nat),pos≤s.size∧j≤s.size∧l= .slice ao j cap∧b= .int .i64 (pos:Int)∧Hid (PcSt s w wr (.slice ao j cap) j pos)) (fun _ b _ _=>s.size-(intOf b).toNat)
 case atStart=>exact ⟨0,0,_,0,Nat.zero_le _,Nat.zero_le _,rfl,rfl,HS⟩
 case round=>
  obtain ⟨j,pos,ao,cap,hpos,hj,rfl,rfl,HQ⟩:=hrel;by_cases hp:pos<s.size
  · have hl1:(pos:Int)<(s.size:Int):=by omega
    have HAt:=hQz (w_at s pos wr hp (by omega));unfold pcV at HAt;have h1:=q1d (s.data.toList.drop pos);have h2:=step_le hp;have hdc:pcC s pos=[.int .i64 (pos:Int),.int .i64 ((pos+(decL (s.data.toList.drop pos)).2:Nat):Int),.int .i64 ((decL (s.data.toList.drop pos)).1:Int),.bool (q0p (s.data.toList.drop pos))]:=rfl
    have hoq:off s.data.toList (j+1)=pos+(decL (s.data.toList.drop pos)).2:=by
     have h:=off_step s.data.toList j (by rw [← HQ.out.at_];exact drop_ne hp);rw [h,← HQ.out.at_]
    have hjN:j<(q29 s.data.toList).length:=by
     rcases Nat.lt_or_ge j (q29 s.data.toList).length with g|g
     · exact g
     · have:=off_end j s.data.toList g;rw [← HQ.out.at_,sizeL] at this;omega
    generalize q0p (s.data.toList.drop pos)=st at HAt hdc;generalize (decL (s.data.toList.drop pos)).1=r at HAt hdc;obtain ⟨q,hq⟩:∃ q,q=pos+(decL (s.data.toList.drop pos)).2:=⟨_,rfl⟩;rw [← hq] at HAt hdc h2 hoq;have hq1:pos+1≤q:=by omega
    have HDC:=hQz hdc;have HOQ:=hQz hoq;have HJN:=hQz hjN;clear h1 hq hdc hoq hjN;go_wp2_with fail;refine HAt.out.mono ?_;rintro e w1 ⟨rfl,hb1⟩;have hown:=q1G HQ.out.own hb1;have HB1:=hQz (HQ.out.below.trans (hb1.mono HQ.out.below.size));have hsz:=HB1.out.size;clear hb1 HAt;go_wp2_with (at_builtin;refine wpList_append_own _ rfl (.tmp 14) (.tmp 16) 70 rfl w.heap.size 69 i0 (.agg #[.int .i64 0,.int .i64 0,.int .i64 0,.bool false]) 4 32 Tryz.underlying70 hi0 hz0 hz1 hz2 rfl (by decide) _ _ _ rfl ((hown.alloc _).alloc _) ⟨w1.heap.size+1,0,none⟩ 1 1 [.int .i64 (pos:Int),.int .i64 (q:Int),.int .i64 (r:Int),.bool st] rfl rfl (new4q w1 _ _ _ _ _) (by intro u hu;simp at hu;rcases hu with rfl|rfl|rfl|rfl <;> rfl) (by unfold maxLen;omega) (by omega) (by simp;omega) ?_);intro v4 w4 hown4 hgrow4 hnn;obtain ⟨so4,c4,hv4⟩:=q2i hown4;subst hv4;have cQ:w4.cell? ⟨w1.heap.size,1,none⟩=some (.int .i64 (q:Int)):=kept4 hown hgrow4
    have HN:Hid (PcSt s w w4 (.slice so4 (j+1) c4) (j+1) q):=by
     refine ⟨?_,HOQ.out.symm,HJN.out,((HB1.out.alloc hsz _).alloc (by simp;omega) _).grown hgrow4 (by simp;omega) (q2L hown)⟩;rw [prow_up,← HQ.out.at_,HDC.out];exact hown4
    have hj1:j+1≤s.size:=by have:=HRL.out;have:=HJN.out;omega
    clear hown4 hgrow4 hnn hown;go_wp2_with fail;go_roundw
    case rel=>exact ⟨j+1,q,so4,c4,h2,hj1,rfl,rfl,HN⟩
    case measure=>simp [intOf];omega
  · have hl1:¬ (pos:Int)<(s.size:Int):=by omega
    have HJ:Hid (j=(q29 s.data.toList).length):=by
     show _=_;have a:=HQ.out.at_;have f:=HQ.out.few
     have g:¬ j<(q29 s.data.toList).length:=by
      intro g;have:=off_lt j s.data.toList g;rw [sizeL] at this;omega
     omega
    have HF:Hid (wr.ownsRow w.heap.size 69 4 (.slice ao (q29 s.data.toList).length cap) (q29 s.data.toList).length (prow s (q29 s.data.toList).length)):=by
     rw [← HJ.out];exact HQ.out.own
    go_wp2_with fail;go_ret;exact ⟨ao,cap,by rw [HJ.out];rfl,HF,HQ.out.below⟩
end Go.Proofs.YtbpopnafcpfifaaGreatDoor
