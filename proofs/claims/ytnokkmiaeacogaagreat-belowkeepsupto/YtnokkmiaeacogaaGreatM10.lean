import Derived.Test.YtnokkmiaeacogaaGreatM7
import Derived.Test.YtnokkmiaeacogaaGreatM1
import Derived.BigQuiet
import Derived.Test.YtnokkmiaeacogaaGreatM6
import Derived.Deep.QuietTactic
set_option linter.unusedVariables false
set_option linter.unusedSimpArgs false
namespace Go.Proofs.YtnokkmiaeacogaaGreat
open Go.RowKit
set_option maxRecDepth 100000
set_option maxHeartbeats 12800000
theorem neg_iff (s:ByteArray):Pl.neg s.data.toList=true↔∃ h:0<s.size,s[0]'h=45:=by
 unfold Pl.neg
 cases e:s.data.toList with
 | nil=>
  have:s.size=0:=by rw [← q0P,e];rfl
  simp [this]
 | cons c r=>
  have h0:0<s.size:=by rw [← q0P,e];simp
  have hc:s[0]'h0=c:=by
   have:=byteD' h0;rw [e] at this;exact this.symm
  constructor
  · intro h;refine ⟨h0,?_⟩;rw [hc];have h':c.toNat=45:=by simpa using h
    exact UInt8.toNat_inj.1 (by rw [h'];rfl)
  · rintro ⟨_,h⟩;rw [hc] at h;rw [h];rfl
theorem w_Number (s:ByteArray) (w:World) (hs:s.size≤281474976710656):
 Calls Tryz.prog 129 #[.string s] w fun e w'=>e= .returned (.bool (Pl.formed s.data.toList))∧w'=w:=by
 obtain ⟨f,hf⟩:∃ f,f=if Pl.neg s.data.toList then 1 else 0:=⟨_,rfl⟩
 have HBad:=hQz (fun k hk h1 h2=>Pl.formed_bad s f hf k hk h1 h2);have HGood:=hQz (fun h1 h2=>Pl.formed_good s f hf h1 h2);have HShort:=hQz (fun h=>Pl.formed_short s f hf h);have H48:Hid (∀ b,(s.toList==[48])=b→True):=fun _ _=>trivial;obtain ⟨b48,hb48⟩:∃ b,(s.toList==[48])=b:=⟨_,rfl⟩
 cases hneg:Pl.neg s.data.toList with
 | true=>
  obtain ⟨h0,h45⟩:=(neg_iff s).1 hneg;rw [hneg] at hf;have hf1:f=1:=hf;subst hf1;have hi0:(0:Int)<(s.size:Int):=by omega
  have hi1:(1:Int)≤(s.size:Int):=by omega
  obtain ⟨r,hr⟩:∃ r,s.extract 1 s.size=r:=⟨_,rfl⟩;have hrl:r.data.toList=s.data.toList.drop 1:=by rw [← hr,Lib.extract_data];exact List.take_of_length_le (by simp)
  have hrs:r.size=s.size-1:=by rw [← q0P r,hrl,List.length_drop,q0P]
  have hget:∀ i (h:i<r.size) (h':1+i<s.size),r[i]=s[1+i]'h':=by
   intro i h h';rw [← byteD' h,hrl,getD_dropN,byteD']
  have HG:=hQz hget;have HRS:=hQz hrs;have hrb:r.size≤281474976710656:=by omega
  have hne1:b48=false:=by
   rw [← hb48,bqZ];intro e;have:=byteD' h0;rw [h45] at this;rw [Lib.toList_data] at e;rw [e] at this
   cases this
  subst hne1;clear hneg hf hrl hrs hget;go_enter Tryz.func129,Tryz.ntmps129;go_wp2_with fail;clear hr
  go_loopw [4] (fun i wr=>∃ k:Nat,k≤r.size∧i= .int .i64 (k:Int)∧wr=w∧Hid (∀ j (h:j<r.size),j<k→Pl.isDig r[j]=true)) (fun i _=>r.size-(intOf i).toNat)
  case atStart=>exact ⟨0,Nat.zero_le _,rfl,rfl,fun j h h2=>by omega⟩
  case round=>
   obtain ⟨k,hk,rfl,rfl,HQ⟩:=hrel;by_cases hlt:k<r.size
   · have hl1:(k:Int)<(r.size:Int):=by omega
     obtain ⟨c,hc⟩:∃ c,r[k]'hlt=c:=⟨_,rfl⟩;obtain ⟨x,hx⟩:∃ x:Int,((c.toNat:Nat):Int)=x:=⟨_,rfl⟩;have HX:=hQz hx;have HC:=hQz hc
     have HBd:Hid (Pl.isDig c=false→Pl.formed s.data.toList=false):=by
      intro h;have hrs:=HRS.out;exact HBad.out (1+k) (by omega) (by omega) (by rw [← HG.out k hlt (by omega),HC.out];exact h)
     have hx0:0≤x:=by omega
     have hx1:x≤255:=by have:=c.toNat_lt;omega
     have hcs:x<48∨(¬ x<48∧57<x)∨(¬ x<48∧¬ 57<x):=by omega
     rcases hcs with a|⟨a,b⟩|⟨a,b⟩
     · have HF:=hQz (HBd.out (by unfold Pl.isDig;rw [decide_eq_false (by have:=HX.out;omega)];rfl));go_wp2_with fail;go_ret;exact ⟨by rw [HF.out];rfl,rfl⟩
     · have HF:=hQz (HBd.out (by unfold Pl.isDig;rw [decide_eq_false (p:=c.toNat≤57) (by have:=HX.out;omega),Bool.and_false]));go_wp2_with fail;go_ret;exact ⟨by rw [HF.out];rfl,rfl⟩
     · have HN:Hid (∀ j (h:j<r.size),j<k+1→Pl.isDig r[j]=true):=by
        intro j h h2;rcases Nat.lt_or_ge j k with g|g
        · exact HQ.out j h g
        · obtain rfl:j=k:=by omega
          rw [HC.out];unfold Pl.isDig;rw [decide_eq_true (by have:=HX.out;omega),decide_eq_true (by have:=HX.out;omega)];rfl
       go_wp2_with fail;go_roundw
       case rel=>exact ⟨k+1,hlt,by go_num,trivial,HN⟩
       case measure=>simp [intOf];omega
   · have hl1:¬ (k:Int)<(r.size:Int):=by omega
     by_cases hz:r.size=0
     · have hz1:((r.size:Int)==0)=true:=by rw [hz];rfl
       have HF:Hid (Pl.formed s.data.toList=false):=HShort.out (by have:=HRS.out;omega);clear hz;go_wp2_with fail;go_ret;exact ⟨by rw [HF.out];rfl,rfl⟩
     · have hz1:((r.size:Int)==0)=false:=by rw [bqZ];omega
       have hr0:0<r.size:=by omega
       have hri:(0:Int)<(r.size:Int):=by omega
       obtain ⟨c,hc⟩:∃ c,r[0]'hr0=c:=⟨_,rfl⟩
       have HF:Hid (Pl.formed s.data.toList=(!(((c.toNat:Nat):Int)==48)||false)):=by
        have hrs:=HRS.out
        have h:=HGood.out (by omega) (fun j hj hj1=>by
         have hg:=HG.out (j-1) (by omega) (by omega);have hjj:1+(j-1)=j:=by omega
         simp only [hjj] at hg;rw [← hg];exact HQ.out _ (by omega) (by omega))
        rw [hb48,← HG.out 0 hr0 (by omega),hc] at h;exact h
       by_cases hc48:(((c.toNat:Nat):Int)==48)=true
       · have HF2:Hid (Pl.formed s.data.toList=false):=by rw [HF.out,hc48];rfl
         clear hz HF;go_wp2_with fail;go_ret;exact ⟨by rw [HF2.out];rfl,rfl⟩
       · have hc48':(((c.toNat:Nat):Int)==48)=false:=by simpa using hc48
         have HF2:Hid (Pl.formed s.data.toList=true):=by rw [HF.out,hc48'];rfl
         clear hz HF hc48;go_wp2_with fail;go_ret;exact ⟨by rw [HF2.out];rfl,rfl⟩
 | false=>
  rw [hneg] at hf;have hf1:f=0:=hf;subst hf1
  have hfst:s.size=0∨∃ h:0<s.size,s[0]'h≠45:=by
   rcases Nat.eq_zero_or_pos s.size with h|h
   · exact .inl h
   · refine .inr ⟨h,fun e=> ?_⟩;have:=(neg_iff s).2 ⟨h,e⟩;rw [hneg] at this;cases this
  clear hneg hf;rcases hfst with hz|⟨h0,h45⟩
  · have hz1:((s.size:Int)==0)=true:=by rw [hz];rfl
    have hz2:¬ (0:Int)<(s.size:Int):=by omega
    have HF:Hid (Pl.formed s.data.toList=false):=HShort.out hz.symm;have HZ:=hQz hz;clear hz;go_enter Tryz.func129,Tryz.ntmps129;go_wp2_with fail
    go_loopw [4] (fun i wr=>i= .int .i64 0∧wr=w) (fun i _=>0)
    case atStart=>exact ⟨rfl,rfl⟩
    case round=>
     obtain ⟨rfl,rfl⟩:=hrel;go_wp2_with fail;go_ret;exact ⟨by rw [HF.out];rfl,rfl⟩
  · have hi0:(0:Int)<(s.size:Int):=by omega
    have hb45:((((s[0]'h0).toNat:Nat):Int)==45)=false:=by
     rw [bqZ];intro e;apply h45;apply UInt8.toNat_inj.1;have:(45:UInt8).toNat=45:=rfl;omega
    clear h45;go_enter Tryz.func129,Tryz.ntmps129;go_wp2_with fail
    go_loopw [4] (fun i wr=>∃ k:Nat,k≤s.size∧i= .int .i64 (k:Int)∧wr=w∧Hid (∀ j (h:j<s.size),j<k→Pl.isDig s[j]=true)) (fun i _=>s.size-(intOf i).toNat)
    case atStart=>exact ⟨0,Nat.zero_le _,rfl,rfl,fun j h h2=>by omega⟩
    case round=>
     obtain ⟨k,hk,rfl,rfl,HQ⟩:=hrel;by_cases hlt:k<s.size
     · have hl1:(k:Int)<(s.size:Int):=by omega
       obtain ⟨c,hc⟩:∃ c,s[k]'hlt=c:=⟨_,rfl⟩;obtain ⟨x,hx⟩:∃ x:Int,((c.toNat:Nat):Int)=x:=⟨_,rfl⟩;have HX:=hQz hx;have HC:=hQz hc;have HBd:Hid (Pl.isDig c=false→Pl.formed s.data.toList=false):=fun h=>HBad.out k hlt (Nat.zero_le _) (by rw [HC.out];exact h);have hx0:0≤x:=by omega
       have hx1:x≤255:=by have:=c.toNat_lt;omega
       have hcs:x<48∨(¬ x<48∧57<x)∨(¬ x<48∧¬ 57<x):=by omega
       rcases hcs with a|⟨a,b⟩|⟨a,b⟩
       · have HF:=hQz (HBd.out (by unfold Pl.isDig;rw [decide_eq_false (by have:=HX.out;omega)];rfl));go_wp2_with fail;go_ret;exact ⟨by rw [HF.out];rfl,rfl⟩
       · have HF:=hQz (HBd.out (by unfold Pl.isDig;rw [decide_eq_false (p:=c.toNat≤57) (by have:=HX.out;omega),Bool.and_false]));go_wp2_with fail;go_ret;exact ⟨by rw [HF.out];rfl,rfl⟩
       · have HN:Hid (∀ j (h:j<s.size),j<k+1→Pl.isDig s[j]=true):=by
          intro j h h2;rcases Nat.lt_or_ge j k with g|g
          · exact HQ.out j h g
          · obtain rfl:j=k:=by omega
            rw [HC.out];unfold Pl.isDig;rw [decide_eq_true (by have:=HX.out;omega),decide_eq_true (by have:=HX.out;omega)];rfl
         go_wp2_with fail;go_roundw
         case rel=>exact ⟨k+1,hlt,by go_num,trivial,HN⟩
         case measure=>simp [intOf];omega
     · have hl1:¬ (k:Int)<(s.size:Int):=by omega
       have hz1:((s.size:Int)==0)=false:=by rw [bqZ];omega
       obtain ⟨c,hc⟩:∃ c,s[0]'h0=c:=⟨_,rfl⟩
       have HF:Hid (Pl.formed s.data.toList=(!(((c.toNat:Nat):Int)==48)||b48)):=by
        have h:=HGood.out h0 (fun j hj hj1=>HQ.out j hj (by omega));rw [hb48,hc] at h;exact h
       by_cases hc48:(((c.toNat:Nat):Int)==48)=true
       · cases b48 with
         | true=>
          have HF2:Hid (Pl.formed s.data.toList=true):=by rw [HF.out,hc48];rfl
          clear HF;go_wp2_with fail;go_ret;exact ⟨by rw [HF2.out];rfl,rfl⟩
         | false=>
          have HF2:Hid (Pl.formed s.data.toList=false):=by rw [HF.out,hc48];rfl
          clear HF;go_wp2_with fail;go_ret;exact ⟨by rw [HF2.out];rfl,rfl⟩
       · have hc48':(((c.toNat:Nat):Int)==48)=false:=by simpa using hc48
         have HF2:Hid (Pl.formed s.data.toList=true):=by rw [HF.out,hc48'];rfl
         clear HF hc48;go_wp2_with fail;go_ret;exact ⟨by rw [HF2.out];rfl,rfl⟩
theorem InH.open {W:World} {h:Nat} {T:VT} {v:Value} (hI:InH W (h+1) T v):∃ (io:Option Addr) (icap:Nat) (ko:Option Addr) (kcap:Nat),
 v= .agg #[.int .i64 T.kind,.string T.num,.string T.text,.slice io T.items.length icap,.slice ko T.keys.length kcap]∧
 T.num.size≤140737488355328∧T.text.size≤140737488355328∧T.items.length≤140737488355328∧T.keys.length≤140737488355328∧T.items.length≤icap∧T.keys.length≤kcap∧
 (∀ k∈T.keys,k.size≤140737488355328)∧KIn W ko T.keys∧IIn W h io T.items:=by
 obtain ⟨io,icap,ko,kcap,e,a1,a2,a3,a4,a5,a6,a7,hk,hi⟩:=hI;exact ⟨io,icap,ko,kcap,e,a1,a2,a3,a4,a5,a6,a7,hk,⟨hi⟩⟩
def oK (keys:List ByteArray) (k:Nat):Bool:=(List.range k).all fun i=>okB (keys.getD i .empty).data.toList
def rA (keys:List ByteArray) (i:Nat):Bool:=Op.bytesLess (keys.getD (i-1) .empty).toList (keys.getD i .empty).toList
def rK (keys:List ByteArray) (k:Nat):Bool:=(List.range k).all fun i=>i==0||rA keys i
theorem oK_up (keys:List ByteArray) (k:Nat):oK keys (k+1)=(oK keys k&&okB (keys.getD k .empty).data.toList):=by simp [oK,List.range_succ]
theorem rK_up (keys:List ByteArray) (k:Nat):rK keys (k+1)=(rK keys k&&(k==0||rA keys k)):=by simp [rK,List.range_succ]
theorem all_false_of {f:Nat→Bool} {k N:Nat} (h:k<N) (hf:f k=false):(List.range N).all f=false:=by
 rw [List.all_eq_false];exact ⟨k,List.mem_range.2 h,by simp [hf]⟩
theorem oK_no {keys:List ByteArray} {k N:Nat} (h:k<N) (hf:okB (keys.getD k .empty).data.toList=false):oK keys N=false:=all_false_of h hf
theorem rK_no {keys:List ByteArray} {k N:Nat} (h:k<N) (h0:k≠0) (hf:rA keys k=false):rK keys N=false:=all_false_of (f:=fun i=>i==0||rA keys i) h (by simp [hf,h0])
theorem key_size {keys:List ByteArray} (h:∀ k∈keys,k.size≤140737488355328) {i:Nat} (hi:i<keys.length):(keys.getD i .empty).size≤140737488355328:=by
 apply h;rw [List.getD_eq_getElem?_getD,List.getElem?_eq_getElem hi];exact List.getElem_mem hi
theorem w_Rise (ko:Option Addr) (K kcap:Nat) (keys:List ByteArray) (w:World) (hk:KIn w ko keys) (hK:keys.length=K) (hcap:K≤kcap) (hK2:K≤140737488355328) (hs:∀ k∈keys,k.size≤140737488355328):
 Calls Tryz.prog 46 #[.slice ko K kcap] w fun e w'=>e= .returned (.bool (rK keys K&&oK keys K))∧Below w.heap.size w w':=by
 have HK:=hQz hk;have HKK:=hQz hK;have HSz:=hQz (fun i (hi:i<keys.length)=>key_size hs hi);clear hk hK hs;go_enter Tryz.func46,Tryz.ntmps46;go_wp2_with fail
 go_loopw [3] (fun i wr=>∃ k:Nat,k≤K∧i= .int .i64 (k:Int)∧Hid (Below w.heap.size w wr)∧Hid (oK keys k=true∧rK keys k=true)) (fun i _=>K-(intOf i).toNat)
 case atStart=>exact ⟨0,Nat.zero_le _,rfl,Below.refl _ _,rfl,rfl⟩
 case round=>
  obtain ⟨k,hk,rfl,HB,HQ⟩:=hrel;by_cases hlt:k<K
  · have hl1:(k:Int)<(K:Int):=by omega
    have hkl:k<keys.length:=by rw [HKK.out];exact hlt
    obtain ⟨b,off,hko,hbl,hrow⟩:=(HK.out.keep HB.out).row (by omega);subst hko;have c1:=hrow k hkl;have hsz:=HSz.out k hkl;have HUp:=hQz (oK_up keys k);have HUr:=hQz (rK_up keys k);have HNo:=hQz (fun h=>oK_no (keys:=keys) hlt h);have HU:=hQz (fun u=>w_UTF (keys.getD k ByteArray.empty) u (by omega))
    cases hok:okB (keys.getD k ByteArray.empty).data.toList with
    | false=>
     have HF:Hid ((rK keys K&&oK keys K)=false):=by show _=_;rw [HNo.out hok,Bool.and_false]
     rw [hok] at HU;generalize keys.getD k ByteArray.empty=t at c1 HU;clear hok hrow hbl hkl hsz HUp HUr;go_wp2_with fail;refine (HU.out _).mono ?_;rintro e w2 ⟨rfl,hw⟩;obtain rfl:=hw.symm;go_wp2_with fail;go_ret;exact ⟨by rw [HF.out];rfl,HB.out⟩
    | true=>
     rw [hok] at HU;have HOn:Hid (oK keys (k+1)=true):=by show _=_;rw [HUp.out,HQ.out.1,hok];rfl
     rcases Nat.eq_zero_or_pos k with h0|h0
     · subst h0;have hl0:(0:Int)<(K:Int):=by omega
       have HN:Hid (oK keys (0+1)=true∧rK keys (0+1)=true):=⟨HOn.out,by rw [HUr.out,HQ.out.2];rfl⟩;generalize keys.getD 0 ByteArray.empty=t at c1 HU;rw [Nat.add_zero] at c1;clear hok hrow hbl hkl hsz HUp HUr hl1;go_wp2_with fail;refine (HU.out _).mono ?_;rintro e w2 ⟨rfl,hw⟩;obtain rfl:=hw.symm;go_wp2_with fail;go_quiet (fail);have HB2:Hid (Below w.heap.size w (wr.drewN nq)):=⟨HB.out.os,HB.out.tape,HB.out.output,HB.out.size,HB.out.block⟩;go_wp2_with fail;go_roundw
       case rel=>exact ⟨0+1,hlt,by go_num,HB2,HN⟩
       case measure=>simp [intOf];omega
     · obtain ⟨j,hj⟩:∃ j,k=j+1:=⟨k-1,by omega⟩;subst hj;have c0:=hrow j (by omega);have HRn:=hQz (fun h=>rK_no (keys:=keys) (k:=j+1) hlt (by omega) h);have HRe:Hid (rA keys (j+1)=Op.bytesLess (keys.getD j ByteArray.empty).toList (keys.getD (j+1) ByteArray.empty).toList):=by show _=_;unfold rA;rw [Nat.add_sub_cancel]
       have hgt:(0:Int)<(j:Int)+1:=by omega
       have hcast:(((j+1:Nat)):Int)=(j:Int)+1:=by omega
       have hl2:(j:Int)<(K:Int):=by omega
       have hl3:(j:Int)+1<(K:Int):=by omega
       have z0:(0:Int)≤(j:Int):=by omega
       have z1:(0:Int)≤(j:Int)+1:=by omega
       have wj:IntKind.i64.wrap (j:Int)=(j:Int):=by rw [IntKind.wrap_i64];omega
       have hj0:(j:Int)+1-1=(j:Int):=by omega
       have hjw:IntKind.i64.wrap ((j:Int)+1-1)=(j:Int):=by rw [IntKind.wrap_i64];omega
       cases hlss:Op.bytesLess (keys.getD j ByteArray.empty).toList (keys.getD (j+1) ByteArray.empty).toList with
       | true=>
        have HN:Hid (oK keys (j+1+1)=true∧rK keys (j+1+1)=true):=⟨HOn.out,by rw [HUr.out,HQ.out.2,HRe.out,hlss];simp⟩;generalize keys.getD j ByteArray.empty=s at c0 hlss;generalize keys.getD (j+1) ByteArray.empty=t at c1 HU hlss;clear hok hrow hbl hkl hsz HUp HUr h0 HRe;go_wp2_with fail;refine (HU.out _).mono ?_;rintro e w2 ⟨rfl,hw⟩;obtain rfl:=hw.symm;go_wp2_with fail;go_quiet (fail);have HB2:Hid (Below w.heap.size w (wr.drewN nq)):=⟨HB.out.os,HB.out.tape,HB.out.output,HB.out.size,HB.out.block⟩;go_wp2_with fail;go_roundw
        case rel=>exact ⟨j+1+1,hlt,by go_num,HB2,HN⟩
        case measure=>simp [intOf];omega
       | false=>
        have HF:Hid ((rK keys K&&oK keys K)=false):=by show _=_;rw [HRn.out (by rw [HRe.out];exact hlss),Bool.false_and]
        generalize keys.getD j ByteArray.empty=s at c0 hlss;generalize keys.getD (j+1) ByteArray.empty=t at c1 HU hlss;clear hok hrow hbl hkl hsz HUp HUr h0 HRe;go_wp2_with fail;refine (HU.out _).mono ?_;rintro e w2 ⟨rfl,hw⟩;obtain rfl:=hw.symm;go_wp2_with fail;go_quiet (fail);have HB2:Hid (Below w.heap.size w (wr.drewN nq)):=⟨HB.out.os,HB.out.tape,HB.out.output,HB.out.size,HB.out.block⟩;go_wp2_with fail;go_ret;exact ⟨by rw [HF.out];rfl,HB2.out⟩
  · have hl1:¬ (k:Int)<(K:Int):=by omega
    have HF:Hid ((rK keys K&&oK keys K)=true):=by
     have e:k=K:=by omega
     rw [← e,HQ.out.1,HQ.out.2];rfl
    go_wp2_with fail;go_ret;exact ⟨by rw [HF.out];rfl,HB.out⟩
structure VB2 (w u:World) (a b c d e b' c' d' e':Value):Prop where
 one:VBx w u a b c d e
 two:VBx (w.alloc (.cells #[a,b,c,d,e] 115)) u a b' c' d' e'
theorem VB2.keep {w u u':World} {a b c d e b' c' d' e':Value} (h:VB2 w u a b c d e b' c' d' e') (hb:Below u.heap.size u u'):VB2 w u' a b c d e b' c' d' e':=⟨h.one.keep hb,h.two.keep hb⟩
theorem VB2.d0 {w u:World} {a b c d e b' c' d' e':Value} (h:VB2 w u a b c d e b' c' d' e'):u.cell? ⟨w.heap.size+1,0,none⟩=some a:=by have:=h.two.c0;rwa [World.size_alloc] at this
theorem VB2.d1 {w u:World} {a b c d e b' c' d' e':Value} (h:VB2 w u a b c d e b' c' d' e'):u.cell? ⟨w.heap.size+1,1,none⟩=some b':=by have:=h.two.c1;rwa [World.size_alloc] at this
theorem VB2.d2 {w u:World} {a b c d e b' c' d' e':Value} (h:VB2 w u a b c d e b' c' d' e'):u.cell? ⟨w.heap.size+1,2,none⟩=some c':=by have:=h.two.c2;rwa [World.size_alloc] at this
theorem VB2.d3 {w u:World} {a b c d e b' c' d' e':Value} (h:VB2 w u a b c d e b' c' d' e'):u.cell? ⟨w.heap.size+1,3,none⟩=some d':=by have:=h.two.c3;rwa [World.size_alloc] at this
theorem VB2.d4 {w u:World} {a b c d e b' c' d' e':Value} (h:VB2 w u a b c d e b' c' d' e'):u.cell? ⟨w.heap.size+1,4,none⟩=some e':=by have:=h.two.c4;rwa [World.size_alloc] at this
end Go.Proofs.YtnokkmiaeacogaaGreat
