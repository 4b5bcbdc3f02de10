import Derived.Test.YtdjleoglphgdgaaGreatDoorM13
import Derived.Test.YtdjleoglphgdgaaGreatDoorM17
import Derived.Test.YtdjleoglphgdgaaGreatDoorM16
set_option linter.unusedVariables false
set_option linter.unusedSimpArgs false
namespace Go.Proofs.YtdjleoglphgdgaaGreatDoor
open Go.RowKit
set_option maxRecDepth 100000
set_option maxHeartbeats 12800000
def shN (c:UInt8):Option Nat:=if c=34 then some 34 else if c=92 then some 92 else if c=47 then some 47 else if c=98 then some 8 else if c=102 then some 12 else if c=110 then some 10 else if c=114 then some 13 else if c=116 then some 9 else none
def q0E (l:List UInt8):Option Nat:=if l.getD 0 0=92∧2≤l.length then shN (l.getD 1 0) else none
def numL (l:List UInt8):Option Nat:=if 6≤l.length∧l.getD 0 0=92∧l.getD 1 0=117∧((l.drop 2).take 4).all q1j=true then some (hexN ((l.drop 2).take 4)) else none
def escL (l:List UInt8) (k:Nat):Nat × Nat × Nat:=
 match q0E (l.drop k) with
 | some r=>(r,k+2,0)
 | none=>match numL (l.drop k) with
  | none=>(0,k,23)
  | some n=>if n<55296∨57344≤n then (n,k+6,0) else
   match numL (l.drop (k+6)) with
   | none=>(0,k,24)
   | some m=>if n<56320∧56320≤m∧m<57344 then (65536+(n-55296)*1024+(m-56320),k+12,0) else (0,k,24)
def unqL (l:List UInt8) (p:Nat) (acc:List Nat):List Nat × Nat × Nat:=
 if h:p<l.length then
  if (decL (l.drop p)).1=34 then (acc,p+1,0)
  else if (decL (l.drop p)).1<32 then ([],p,22)
  else if q0R (l.drop p)=true then ([],p,20)
  else if (decL (l.drop p)).1=92 then
   (if (escL l p).2.2=0 then (if p<(escL l p).2.1 then unqL l (escL l p).2.1 (acc++[(escL l p).1]) else ([],0,0)) else ([],(escL l p).2.1,(escL l p).2.2))
  else (if 0<(decL (l.drop p)).2 then unqL l (p+(decL (l.drop p)).2) (acc++[(decL (l.drop p)).1]) else ([],0,0))
 else ([],l.length,21)
termination_by l.length-p
theorem q1Q {l:List UInt8} {p:Nat} (acc:List Nat) (h:¬ p<l.length):unqL l p acc=([],l.length,21):=by rw [unqL,dif_neg h]
theorem unqL_quote {l:List UInt8} {p:Nat} (acc:List Nat) (h:p<l.length) (h1:(decL (l.drop p)).1=34):unqL l p acc=(acc,p+1,0):=by rw [unqL,dif_pos h,if_pos h1]
theorem unqL_ctl {l:List UInt8} {p:Nat} (acc:List Nat) (h:p<l.length) (h1:¬ (decL (l.drop p)).1=34) (h2:(decL (l.drop p)).1<32):unqL l p acc=([],p,22):=by rw [unqL,dif_pos h,if_neg h1,if_pos h2]
theorem unqL_stray {l:List UInt8} {p:Nat} (acc:List Nat) (h:p<l.length) (h1:¬ (decL (l.drop p)).1=34) (h2:¬ (decL (l.drop p)).1<32) (h3:q0R (l.drop p)=true):unqL l p acc=([],p,20):=by rw [unqL,dif_pos h,if_neg h1,if_neg h2,if_pos h3]
theorem unqL_esc {l:List UInt8} {p:Nat} (acc:List Nat) (h:p<l.length) (h3:q0R (l.drop p)=false) (h4:(decL (l.drop p)).1=92):unqL l p acc=(if (escL l p).2.2=0 then (if p<(escL l p).2.1 then unqL l (escL l p).2.1 (acc++[(escL l p).1]) else ([],0,0)) else ([],(escL l p).2.1,(escL l p).2.2)):=by
 rw [unqL,dif_pos h,if_neg (by omega),if_neg (by omega),if_neg (by rw [h3];decide),if_pos h4]
theorem unqL_rune {l:List UInt8} {p:Nat} (acc:List Nat) (h:p<l.length) (h1:¬ (decL (l.drop p)).1=34) (h2:¬ (decL (l.drop p)).1<32) (h3:q0R (l.drop p)=false) (h4:¬ (decL (l.drop p)).1=92):unqL l p acc=unqL l (p+(decL (l.drop p)).2) (acc++[(decL (l.drop p)).1]):=by
 have:=q1D (l.drop p);rw [unqL,dif_pos h,if_neg h1,if_neg h2,if_neg (by rw [h3];decide),if_neg h4,if_pos (by omega)]
theorem hex_ascii {c:UInt8} (h:q1j c=true):c.toNat<128:=by
 rcases hex_cases h with h1|h1
 · omega
 · have:c.toNat≤(c.toNat ||| 32):=Nat.left_le_or;omega
theorem shN_ok {c:UInt8} {r:Nat} (h:shN c=some r):c.toNat<128∧r<128∧c≠117:=by
 unfold shN at h
 repeat' split at h
 all_goals first|cases h|skip
 all_goals (rename_i hc;subst hc;exact ⟨by decide,by decide,by decide⟩)
theorem getD_dropL (l:List UInt8) (k j:Nat):(l.drop k).getD j 0=l.getD (k+j) 0:=by simp [List.getD,List.getElem?_drop]
theorem numL_ok {l:List UInt8} {k n:Nat} (h:numL (l.drop k)=some n):k+6≤l.length∧n<65536∧(∀ j,k≤j→j<k+6→(l.getD j 0).toNat<128)∧l.getD k 0=92∧l.getD (k+1) 0=117:=by
 unfold numL at h
 split at h
 · rename_i hc
   obtain ⟨h1,h2,h3,h4⟩:=hc;rw [List.length_drop] at h1;have hl:k+6≤l.length:=by omega
   have e:n=hexN (((l.drop k).drop 2).take 4):=(Option.some.inj h).symm;have hlen:(((l.drop k).drop 2).take 4).length=4:=by simp;omega
   rw [getD_dropL] at h2 h3;refine ⟨hl,?_,?_,h2,h3⟩
   · rw [e];exact hexN_lt _ h4 4 (by omega)
   · intro j hj1 hj2;by_cases a:j=k
     · subst a;rw [Nat.add_zero] at h2;rw [h2];decide
     by_cases b:j=k+1
     · subst b;rw [h3];decide
     have hm:=List.all_eq_true.1 h4 (l.getD j 0) (by
      have:l.getD j 0=(((l.drop k).drop 2).take 4)[j-k-2]'(by omega):=by
       simp [List.getElem_take,List.getElem_drop,List.getD];have e2:k+(2+(j-k-2))=j:=by omega
       rw [List.getElem?_eq_getElem (by omega)];have e3:k+2+(j-k-2)=j:=by omega
       simp [e2,e3]
      rw [this];exact List.getElem_mem _)
     exact hex_ascii hm
 · cases h
theorem shortL_ok {l:List UInt8} {k r:Nat} (h:q0E (l.drop k)=some r):k+2≤l.length∧r<128∧(∀ j,k≤j→j<k+2→(l.getD j 0).toNat<128)∧l.getD k 0=92∧shN (l.getD (k+1) 0)=some r:=by
 unfold q0E at h
 split at h
 · rename_i hc
   obtain ⟨h1,h2⟩:=hc;rw [getD_dropL] at h1 h;rw [List.length_drop] at h2;have:=shN_ok h;refine ⟨by omega,this.2.1,?_,h1,h⟩;intro j hj1 hj2;by_cases a:j=k
   · subst a;rw [Nat.add_zero] at h1;rw [h1];decide
   · obtain rfl:j=k+1:=by omega
     exact this.1
 · cases h
theorem escL_ok {l:List UInt8} {k:Nat} (h:(escL l k).2.2=0):k<(escL l k).2.1∧(escL l k).2.1≤l.length∧isR (escL l k).1∧∀ j,k≤j→j<(escL l k).2.1→(l.getD j 0).toNat<128:=by
 unfold escL at h ⊢
 cases hs:q0E (l.drop k) with
 | some r=>
  rw [hs] at h;obtain ⟨h1,h2,h3,_⟩:=shortL_ok hs;exact ⟨by show k<k+2;omega,h1,.inl (by show r<_;omega),h3⟩
 | none=>
  rw [hs] at h
  cases hn:numL (l.drop k) with
  | none=>rw [hn] at h;simp at h
  | some n=>
   rw [hn] at h;obtain ⟨h1,h2,h3,_⟩:=numL_ok hn;simp only at h ⊢;by_cases hc:n<55296∨57344≤n
   · rw [if_pos hc];exact ⟨by show k<k+6;omega,h1,by show isR n;unfold isR;omega,h3⟩
   · rw [if_neg hc] at h ⊢
     cases hm:numL (l.drop (k+6)) with
     | none=>rw [hm] at h;simp at h
     | some m=>
      rw [hm] at h;obtain ⟨g1,g2,g3,_⟩:=numL_ok hm;simp only at h ⊢;by_cases hd:n<56320∧56320≤m∧m<57344
      · rw [if_pos hd];refine ⟨by show k<k+12;omega,by show k+12≤_;omega,by show isR _;unfold isR;omega,fun j hj1 hj2=> ?_⟩;have hj2':j<k+12:=hj2;rcases Nat.lt_or_ge j (k+6) with g|g
        · exact h3 j hj1 g
        · exact g3 j g (by omega)
      · rw [if_neg hd] at h;simp at h
theorem escL_code (l:List UInt8) (k:Nat):((escL l k).2.2=0)∨((escL l k).2.2=23∧(escL l k).1=0∧(escL l k).2.1=k)∨((escL l k).2.2=24∧(escL l k).1=0∧(escL l k).2.1=k):=by
 unfold escL
 repeat' split
 all_goals simp
theorem q1N {l:List UInt8} {k:Nat} (hk:k<l.length) (h:(l.getD k 0).toNat<128):decL (l.drop k)=((l.getD k 0).toNat,1):=by
 rw [List.drop_eq_getElem_cons hk];have e:l.getD k 0=l[k]:=by simp [List.getD,hk]
 rw [e] at h ⊢;exact dec1 _ rfl h
theorem w_shortAt_ex (s:ByteArray) (k:Nat) (w:World) (hk:k<s.size) (hs:s.size≤4611686018427387904):
 Calls Tryz.prog 216 #[.string s,.int .i64 (k:Int)] w fun e w'=>RuneB w w' e fun r b=>(∃ x:Nat,q0E (s.data.toList.drop k)=some x∧r=(x:Int)∧b=true)∨(q0E (s.data.toList.drop k)=none∧b=false):=by
 have hi0:(k:Int)<(s.size:Int):=by omega
 by_cases h92:s[k]=92
 · by_cases hend:k+1=s.size
   · have hne:((k:Int)+1==(s.size:Int))=true:=by rw [beq_iff_eq];omega
     have HNO:Hid (q0E (s.data.toList.drop k)=none):=by
      show _=_;unfold q0E;rw [if_neg];intro h;have h2:=h.2;rw [List.length_drop,q1e] at h2;omega
     clear hend;go_in;go_wp2_with fail
     go_ret2
     exact ⟨_,_,rfl,.inr ⟨HNO.out,rfl⟩,Below.refl _ _⟩
   · have hk1:k+1<s.size:=by omega
     have hd:s.data.toList.drop k=92::s[k+1]::s.data.toList.drop (k+2):=by
      have l0:k<s.data.toList.length:=by rw [Array.length_toList];exact hk
      have l1:k+1<s.data.toList.length:=by rw [Array.length_toList];exact hk1
      rw [List.drop_eq_getElem_cons l0,List.drop_eq_getElem_cons l1];have e0:s.data.toList[k]'l0=s[k]:=rfl;have e1:s.data.toList[k+1]'l1=s[k+1]:=rfl;rw [e0,e1,h92]
     obtain ⟨c,hc⟩:∃ c,c=s[k+1]:=⟨_,rfl⟩;rw [← hc] at hd
     have fin:∀ z:Nat,q0E (s.data.toList.drop k)=some z→(Calls Tryz.prog 216 #[.string s,.int .i64 (k:Int)] w fun e w'=>e= .returned (.tuple #[.int .i32 (z:Int),.bool true])∧w'=w)→Calls Tryz.prog 216 #[.string s,.int .i64 (k:Int)] w fun e w'=>RuneB w w' e fun r b=>(∃ x:Nat,q0E (s.data.toList.drop k)=some x∧r=(x:Int)∧b=true)∨(q0E (s.data.toList.drop k)=none∧b=false):=by
      intro z h0 h;refine h.mono ?_;rintro e w1 ⟨rfl,hw⟩;obtain rfl:=hw.symm;exact ⟨z,true,rfl,.inl ⟨z,h0,rfl,rfl⟩,Below.refl _ _⟩
     by_cases a1:c=34
     · rw [a1] at hd;exact fin 34 (by rw [hd];rfl) (s_34 s k _ w hd hs)
     by_cases a2:c=92
     · rw [a2] at hd;exact fin 92 (by rw [hd];rfl) (s_92 s k _ w hd hs)
     by_cases a3:c=47
     · rw [a3] at hd;exact fin 47 (by rw [hd];rfl) (s_47 s k _ w hd hs)
     by_cases a4:c=98
     · rw [a4] at hd;exact fin 8 (by rw [hd];rfl) (s_8 s k _ w hd hs)
     by_cases a5:c=102
     · rw [a5] at hd;exact fin 12 (by rw [hd];rfl) (s_12 s k _ w hd hs)
     by_cases a6:c=110
     · rw [a6] at hd;exact fin 10 (by rw [hd];rfl) (s_10 s k _ w hd hs)
     by_cases a7:c=114
     · rw [a7] at hd;exact fin 13 (by rw [hd];rfl) (s_13 s k _ w hd hs)
     by_cases a8:c=116
     · rw [a8] at hd;exact fin 9 (by rw [hd];rfl) (s_9 s k _ w hd hs)
     have hno:=sign_none c ⟨a1,a2,a3,a4,a5,a6,a7,a8⟩;have HI:=hQz (fun u=>Tryz.strings_IndexByte ⟨#[34,92,47,98,102,110,114,116]⟩ ((c.toNat:Nat):Int) u);rw [hno] at HI;have g1:s[k+1]=c:=hc.symm;have hi1:(k:Int)+1<(s.size:Int):=by omega
     have hne:((k:Int)+1==(s.size:Int))=false:=by rw [bqZ];omega
     have HNO:Hid (q0E (s.data.toList.drop k)=none):=by
      show _=_;rw [hd];show (if (92:UInt8)=92∧2≤(92::c::s.data.toList.drop (k+2)).length then shN c else none)=none;rw [if_pos ⟨rfl,by simp⟩];unfold shN;rw [if_neg a1,if_neg a2,if_neg a3,if_neg a4,if_neg a5,if_neg a6,if_neg a7,if_neg a8]
     clear a1 a2 a3 a4 a5 a6 a7 a8 hno fin hd hend hc;go_in;go_wp2_with fail;refine (HI.out _).mono ?_;rintro e w1 ⟨rfl,hw⟩;obtain rfl:=hw.symm;go_wp2_with fail
     go_ret2
     exact ⟨_,_,rfl,.inr ⟨HNO.out,rfl⟩,Below.refl _ _⟩
 · have h92':((((s[k]).toNat:Nat):Int) != 92)=true:=by
    rw [bne_iff_ne];intro e;apply h92;apply UInt8.toNat_inj.1;have:(92:UInt8).toNat=92:=rfl;omega
   have HNO:Hid (q0E (s.data.toList.drop k)=none):=by
    show _=_;unfold q0E;rw [if_neg];intro h;apply h92;have h1:=h.1;rw [getD_dropL,Nat.add_zero] at h1;have hl0:k<s.data.toList.length:=by rw [q1e];exact hk
    have e0:s.data.toList.getD k 0=s[k]:=by rw [List.getD_eq_getElem?_getD,List.getElem?_eq_getElem hl0];rfl
    rw [← e0,h1]
   clear h92;go_in;go_wp2_with fail
   go_ret2
   exact ⟨_,_,rfl,.inr ⟨HNO.out,rfl⟩,Below.refl _ _⟩
theorem w_numberAt_exg (s:ByteArray) (k:Nat) (ds post:List UInt8) (w:World) (hd:s.data.toList.drop k=92::117::(ds++post)) (hl:ds.length=4) (hh:ds.all q1j=true) (hk:k≤s.size) (hs:s.size≤9223372036854775807):
 Calls Tryz.prog 217 #[.string s,.int .i64 (k:Int)] w fun e w'=>RuneB w w' e fun r b=>(∃ x:Nat,numL (s.data.toList.drop k)=some x∧r=(x:Int)∧b=true)∨(numL (s.data.toList.drop k)=none∧b=false):=by
 have hlt:(s.data.toList.take k).length=k:=by
  rw [List.length_take,Array.length_toList];have e2:s.data.size=s.size:=rfl;omega
 have hN:NumAt s k ds:=⟨hl,hh,s.data.toList.take k,post,by rw [List.append_assoc];show _=_++(92::117::(ds++post));rw [← hd,List.take_append_drop],hlt⟩;have h6:=hN.lt;have hn:hexN ds<65536:=hexN_lt ds hh 4 (by rw [hl];exact Nat.le_refl _);refine (w_numberAt s k ds w hN hs).mono ?_;rintro e w1 ⟨rfl,hb⟩;refine ⟨_,_,rfl,.inl ⟨hexN ds,?_,rfl,rfl⟩,hb⟩;rw [hd];unfold numL
 have e:(List.take 4 (List.drop 2 (92::117::(ds++post))))=ds:=by
  show List.take 4 (ds++post)=ds;rw [← hl,List.take_left]
 rw [e,if_pos ⟨by simp;omega,rfl,rfl,hh⟩]
theorem w_numberAt_ex (s:ByteArray) (k:Nat) (w:World) (hk:k≤s.size) (hs:s.size≤4611686018427387904) (hE:ErrIn w):
 Calls Tryz.prog 217 #[.string s,.int .i64 (k:Int)] w fun e w'=>RuneB w w' e fun r b=>(∃ x:Nat,numL (s.data.toList.drop k)=some x∧r=(x:Int)∧b=true)∨(numL (s.data.toList.drop k)=none∧b=false):=by
 have hk1:(k:Int)≤(s.size:Int):=by omega
 obtain ⟨t,ht⟩:∃ t,t=s.extract k s.size:=⟨_,rfl⟩;have htl:t.data.toList=s.data.toList.drop k:=by rw [ht,q0M]
 have hcut:=fun u=>Tryz.strings_CutPrefix t ⟨#[92,117]⟩ u
 cases hp:Lib.hasPrefix t.data.toList (ByteArray.mk #[92,117]).data.toList with
 | false=>
  rw [hp] at hcut;have HC:=hQz hcut
  have HNO:Hid (numL (s.data.toList.drop k)=none):=by
   show _=_;rw [← htl];unfold numL;rw [if_neg];rintro ⟨h1,h2,h3,_⟩
   have:Lib.hasPrefix t.data.toList (ByteArray.mk #[92,117]).data.toList=true:=by
    cases ht2:t.data.toList with
    | nil=>rw [ht2] at h1;simp at h1
    | cons a r=>
     cases r with
     | nil=>rw [ht2] at h1;simp at h1
     | cons b r2=>
      rw [ht2] at h2 h3;have e1:a=92:=h2;have e2:b=117:=h3;subst e1 e2;rfl
   rw [hp] at this
   cases this
  clear hcut hp htl;go_in;go_wp2_with fail;rw [← ht];refine (HC.out _).mono ?_;rintro e w1 ⟨rfl,hw⟩;obtain rfl:=hw.symm;go_wp2_with fail
  go_ret2
  exact ⟨_,_,rfl,.inr ⟨HNO.out,rfl⟩,Below.refl _ _⟩
 | true=>
  have hpp:([92,117]:List UInt8).isPrefixOf t.data.toList=true:=hp;rw [List.isPrefixOf_iff_prefix] at hpp;obtain ⟨rl,hrl⟩:=hpp;have hrl':t.data.toList=92::117::rl:=hrl.symm;have htrim:Lib.trimPrefix t.data.toList (ByteArray.mk #[92,117]).data.toList=rl:=by rw [hrl'];rfl
  rw [hp,htrim] at hcut;have HC:=hQz hcut;obtain ⟨r,hr⟩:∃ r:ByteArray,r=⟨rl.toArray⟩:=⟨_,rfl⟩;rw [← hr] at HC;have hrs:r.size=rl.length:=by rw [hr];simp [ByteArray.size]
  clear hcut htrim;by_cases h4:4≤rl.length
  · cases hh:(rl.take 4).all q1j with
    | true=>
     exact w_numberAt_exg s k (rl.take 4) (rl.drop 4) w (by rw [List.take_append_drop,← htl,hrl']) (by rw [List.length_take];omega) hh hk (by omega)
    | false=>
     have hx:(r.extract 0 4).data.toList=rl.take 4:=by rw [extract_take,hr]
     have HP:Hid (∀ u,ErrIn u→Calls Tryz.prog 235 #[.string (r.extract 0 4),.int .i64 16,.int .i64 16] u fun e w'=>∃ T v,e= .returned (.tuple #[.int .u64 0,.iface T v])∧Below u.heap.size u w'):=by
      intro u hu;exact w_parse16_bad (r.extract 0 4) u (by have:=congrArg List.length hx;rw [List.length_take,Array.length_toList] at this;have e2:(r.extract 0 4).data.size=(r.extract 0 4).size:=rfl;omega) (by rw [hx];exact hh) hu
     have hr4:(4:Int)≤(r.size:Int):=by omega
     have HE:=hQz hE
     have HNO:Hid (numL (s.data.toList.drop k)=none):=by
      show _=_;rw [← htl,hrl'];unfold numL;rw [if_neg];rintro ⟨_,_,_,h4⟩;have h5:(rl.take 4).all q1j=true:=h4;rw [hh] at h5
      cases h5
     clear hE hh hx hrs hr hrl hrl' h4 hp htl;go_in;go_wp2_with fail;rw [← ht];refine (HC.out _).mono ?_;rintro e w1 ⟨rfl,hw⟩;obtain rfl:=hw.symm;go_wp2_with fail;refine (HP.out _ HE.out).mono ?_;rintro e w2 ⟨T,v,rfl,hb2⟩;have HB:=hQz hb2;clear hb2 HP HC ht;have hw32:IntKind.i32.wrap 0=0:=by rw [IntKind.wrap_i32];omega
     go_wp2_with fail
     go_region
     all_goals go_wp2
     all_goals go_ret2
     all_goals exact ⟨0,false,rfl,.inr ⟨HNO.out,rfl⟩,HB.out.drew⟩
  · have hr4:(r.size:Int)<4:=by omega
    have HNO:Hid (numL (s.data.toList.drop k)=none):=by
     show _=_;rw [← htl,hrl'];unfold numL;rw [if_neg];rintro ⟨h5,_⟩;simp at h5;omega
    clear hE hrs hr hrl hrl' h4 hp htl;go_in;go_wp2_with fail;rw [← ht];refine (HC.out _).mono ?_;rintro e w1 ⟨rfl,hw⟩;obtain rfl:=hw.symm;go_wp2_with fail
    go_ret2
    exact ⟨_,_,rfl,.inr ⟨HNO.out,rfl⟩,Below.refl _ _⟩
def EscX (s:ByteArray) (k:Nat) (w w':World) (e:Ending):Prop:=e= .returned (.tuple #[.int .i32 ((escL s.data.toList k).1:Int),.int .i64 ((escL s.data.toList k).2.1:Int),.int .i64 ((escL s.data.toList k).2.2:Int)])∧Below w.heap.size w w'
theorem q1U {s:ByteArray} {k:Nat} {w w':World} {a p c:Nat} {r q z:Int} (h:escL s.data.toList k=(a,p,c)) (hr:r=(a:Int)) (hq:q=(p:Int)) (hz:z=(c:Int)) (hb:Below w.heap.size w w'):EscX s k w w' (.returned (.tuple #[.int .i32 r,.int .i64 q,.int .i64 z])):=by
 subst hr hq hz;exact ⟨by rw [h],hb⟩
theorem escL_short {l:List UInt8} {k x:Nat} (h:q0E (l.drop k)=some x):escL l k=(x,k+2,0):=by unfold escL;rw [h]
theorem escL_none {l:List UInt8} {k:Nat} (h:q0E (l.drop k)=none) (h2:numL (l.drop k)=none):escL l k=(0,k,23):=by unfold escL;rw [h,h2]
theorem escL_one {l:List UInt8} {k n:Nat} (h:q0E (l.drop k)=none) (h2:numL (l.drop k)=some n) (h3:n<55296∨57344≤n):escL l k=(n,k+6,0):=by unfold escL;rw [h,h2];exact if_pos h3
theorem escL_low {l:List UInt8} {k n:Nat} (h:q0E (l.drop k)=none) (h2:numL (l.drop k)=some n) (h3:56320≤n) (h4:n<57344):escL l k=(0,k,24):=by
 unfold escL;rw [h,h2];simp only;rw [if_neg (by omega)]
 split
 · rfl
 · rw [if_neg (by omega)]
theorem escL_alone {l:List UInt8} {k n:Nat} (h:q0E (l.drop k)=none) (h2:numL (l.drop k)=some n) (h3:55296≤n) (h4:n<57344) (h5:numL (l.drop (k+6))=none):escL l k=(0,k,24):=by
 unfold escL;rw [h,h2];simp only;rw [if_neg (by omega),h5]
theorem escL_bad {l:List UInt8} {k n m:Nat} (h:q0E (l.drop k)=none) (h2:numL (l.drop k)=some n) (h3:55296≤n) (h4:n<57344) (h5:numL (l.drop (k+6))=some m) (h6:¬ (56320≤m∧m<57344)):escL l k=(0,k,24):=by
 unfold escL;rw [h,h2];simp only;rw [if_neg (by omega),h5];simp only;rw [if_neg (by omega)]
theorem escL_two {l:List UInt8} {k n m:Nat} (h:q0E (l.drop k)=none) (h2:numL (l.drop k)=some n) (h3:55296≤n) (h4:n<56320) (h5:numL (l.drop (k+6))=some m) (h6:56320≤m) (h7:m<57344):escL l k=(65536+(n-55296)*1024+(m-56320),k+12,0):=by
 unfold escL;rw [h,h2];simp only;rw [if_neg (by omega),h5];simp only;rw [if_pos (by omega)]
theorem w_Escape_ex (s:ByteArray) (k:Nat) (w:World) (hk:k<s.size) (hs:s.size≤4611686018427387904) (hE:ErrIn w):
 Calls Tryz.prog 191 #[.string s,.int .i64 (k:Int)] w fun e w'=>EscX s k w w' e:=by
 have HP:=hQz (fun u=>w_isPlace s k u hk);have HS:=hQz (fun u=>w_shortAt_ex s k u hk hs);have HN:=hQz (fun u (h:ErrIn u)=>w_numberAt_ex s k u (by omega) hs h)
 have HN2:Hid (∀ u,k+6≤s.size→ErrIn u→Calls Tryz.prog 217 #[.string s,.int .i64 ((k:Int)+6)] u fun e w'=>RuneB u w' e fun r b=>(∃ x:Nat,numL (s.data.toList.drop (k+6))=some x∧r=(x:Int)∧b=true)∨(numL (s.data.toList.drop (k+6))=none∧b=false)):=by
  intro u h h2;have:=w_numberAt_ex s (k+6) u h hs h2;rw [show ((k+6:Nat):Int)=(k:Int)+6 by omega] at this;exact this
 have HE:=hQz hE;have hk62:(k:Int)≤4611686018427387904:=by omega
 clear hE;go_in;go_wp2_with fail;refine (HP.out _).mono ?_;rintro e w1 ⟨rfl,hw⟩;obtain rfl:=hw.symm;go_wp2_with fail;refine (HS.out _).mono ?_;rintro e w2 ⟨r,b,rfl,hrb,hb2⟩;have HB2:=hQz hb2;have HE2:=hQz (HE.out.keep hb2);clear hb2;rcases hrb with ⟨x,hx,rfl,rfl⟩|⟨hx,rfl⟩
 · have HX:=hQz (escL_short hx);clear hx;go_wp2_with fail;refine bodyPost_ret (v:= .tuple #[.int .i32 (x:Int),.int .i64 ((k:Int)+2),.int .i64 0]) (by simp [results,Tryz.results191,go_sem]) rfl ?_;exact q1U HX.out rfl (by omega) rfl HB2.out
 · have HSN:=hQz hx;clear hx;go_wp2_with fail;refine (HN.out _ HE2.out).mono ?_;rintro e w3 ⟨n,b,rfl,hnb,hb3⟩;have HB3:=hQz (q1t HB2.out hb3);have HE3:=hQz (HE2.out.keep hb3);clear hb3;rcases hnb with ⟨n',hn,hnr,rfl⟩|⟨hn,rfl⟩
   · obtain ⟨hn6,hn0,_,_⟩:=numL_ok hn;rw [q1e] at hn6;have HNN:=hQz hn;have HNR:=hQz hnr;have hz0:0≤n:=by omega
     have hz1:n≤65535:=by omega
     have HN2':=hQz (HN2.out w3 hn6 HE3.out);clear HN HN2 HS HP HE HE2 HE3 hn hn6 hn0 hnr;have hcs:n<55296∨(¬ n<55296∧57344≤n)∨(¬ n<55296∧¬ 57344≤n∧56320≤n)∨(¬ n<55296∧¬ 57344≤n∧¬ 56320≤n):=by omega
     rcases hcs with h1|⟨h1,h2⟩|⟨h1,h2,h3⟩|⟨h1,h2,h3⟩
     · go_wp2_with fail;refine bodyPost_ret (v:= .tuple #[.int .i32 n,.int .i64 ((k:Int)+6),.int .i64 0]) (by simp [results,Tryz.results191,go_sem]) rfl ?_;exact q1U (escL_one HSN.out HNN.out (by have:=HNR.out;omega)) HNR.out (by omega) rfl HB3.out
     · go_wp2_with fail;refine bodyPost_ret (v:= .tuple #[.int .i32 n,.int .i64 ((k:Int)+6),.int .i64 0]) (by simp [results,Tryz.results191,go_sem]) rfl ?_;exact q1U (escL_one HSN.out HNN.out (by have:=HNR.out;omega)) HNR.out (by omega) rfl HB3.out
     · go_wp2_with fail;refine HN2'.out.mono ?_;rintro e w4 ⟨l,b,rfl,hlb,hb4⟩;have HB4:=hQz (q1t HB3.out hb4);clear hb4 hlb;go_wp2_with fail;refine bodyPost_ret (v:= .tuple #[.int .i32 0,.int .i64 (k:Int),.int .i64 24]) (by simp [results,Tryz.results191,go_sem]) rfl ?_;exact q1U (escL_low HSN.out HNN.out (by have:=HNR.out;omega) (by have:=HNR.out;omega)) rfl (by omega) rfl HB4.out
     · go_wp2_with fail;refine HN2'.out.mono ?_;rintro e w4 ⟨l,b,rfl,hlb,hb4⟩;have HB4:=hQz (q1t HB3.out hb4);clear hb4 HN2';rcases hlb with ⟨m',hm,hml,rfl⟩|⟨hm,rfl⟩
       · have hm0:=(numL_ok hm).2.1;have HMM:=hQz hm;have HML:=hQz hml;have hl0:0≤l:=by omega
         have hl1:l≤65535:=by omega
         clear hm hml hm0;have hls:l<56320∨(¬ l<56320∧57344≤l)∨(¬ l<56320∧¬ 57344≤l):=by omega
         rcases hls with g1|⟨g1,g2⟩|⟨g1,g2⟩
         · go_wp2_with fail;refine bodyPost_ret (v:= .tuple #[.int .i32 0,.int .i64 (k:Int),.int .i64 24]) (by simp [results,Tryz.results191,go_sem]) rfl ?_;exact q1U (escL_bad HSN.out HNN.out (by have:=HNR.out;omega) (by have:=HNR.out;omega) HMM.out (by have:=HML.out;omega)) rfl (by omega) rfl HB4.out
         · go_wp2_with fail;refine bodyPost_ret (v:= .tuple #[.int .i32 0,.int .i64 (k:Int),.int .i64 24]) (by simp [results,Tryz.results191,go_sem]) rfl ?_;exact q1U (escL_bad HSN.out HNN.out (by have:=HNR.out;omega) (by have:=HNR.out;omega) HMM.out (by have:=HML.out;omega)) rfl (by omega) rfl HB4.out
         · go_wp2_with fail;refine bodyPost_ret (v:= .tuple #[.int .i32 (65536+(n-55296)*1024+(l-56320)),.int .i64 ((k:Int)+12),.int .i64 0]) (by simp [results,Tryz.results191,go_sem]) rfl ?_;exact q1U (escL_two HSN.out HNN.out (by have:=HNR.out;omega) (by have:=HNR.out;omega) HMM.out (by have:=HML.out;omega) (by have:=HML.out;omega)) (by have:=HNR.out;have:=HML.out;omega) (by omega) rfl HB4.out
       · have HMM:=hQz hm;clear hm;go_wp2_with fail;refine bodyPost_ret (v:= .tuple #[.int .i32 0,.int .i64 (k:Int),.int .i64 24]) (by simp [results,Tryz.results191,go_sem]) rfl ?_;exact q1U (escL_alone HSN.out HNN.out (by have:=HNR.out;omega) (by have:=HNR.out;omega) HMM.out) rfl (by omega) rfl HB4.out
   · have HNN:=hQz hn;clear hn;go_wp2_with fail;refine bodyPost_ret (v:= .tuple #[.int .i32 0,.int .i64 (k:Int),.int .i64 23]) (by simp [results,Tryz.results191,go_sem]) rfl ?_;exact q1U (escL_none HSN.out HNN.out) rfl (by omega) rfl HB3.out
structure ExSt (B k0:Nat) (w wr:World) (v:Value) (n:Nat) (T:ByteArray) (pos:Nat) (done:List Nat):Prop where
 iter:wr.heap[k0]? =some (.stringIter T pos)
 below:Below B w wr
 isr:∀ z∈done,isR z
 len:(txt done).length=n
 own:wr.ownsRow B 5 1 v n (Lib.byteCells (txt done))
theorem ex_rune {B k0 n q r:Nat} {w W:World} {v:Value} {T:ByteArray} {done:List Nat} (h:ExSt B k0 w W v n T q done) (hB:B≤W.heap.size) (hr:isR r) (hlim:n≤4398046511104):
 Calls Tryz.prog 128 #[v,.int .i32 (r:Int)] W fun e w'=>∃ ao m cap,e= .returned (.slice ao m cap)∧m≤n+4∧Hid (ExSt B k0 w w' (.slice ao m cap) m T q (done++[r])):=by
 have hr1:(r:Int)≤2147483647:=by unfold isR at hr;omega
 have HA:=Tryz.utf8_AppendRune_plain B v n (Lib.byteCells (txt done)) (r:Int) (by omega) hr1 W h.own (by omega) hB;have hcells:Lib.runeCells (r:Int)=Lib.byteCells (enc r):=by rw [← Lib.byteCells_encodeRune,encodeRune_rn,rn_nat hr]
 have hlen:(Lib.byteCells (enc r)).length=(enc r).length:=by simp [Lib.byteCells]
 rw [hcells,hlen] at HA;refine HA.mono ?_;rintro e w1 ⟨v1,rfl,hown1,o,hg1⟩;obtain ⟨so,sc,rfl⟩:=q0m hown1;refine ⟨so,_,sc,rfl,by have:=(enc_len r).2;omega,⟨iter_kept h.own h.iter (q0O hg1),q0T h.own hB h.below hg1,?_,?_,?_⟩⟩
 · intro z hz;rcases List.mem_append.1 hz with h2|h2
   · exact h.isr z h2
   · have:z=r:=by simpa using h2
     rw [this];exact hr
 · rw [txt_snoc,List.length_append,h.len]
 · rw [txt_snoc,Lib.byteCells_append];exact hown1
theorem ExSt.keep {B k0 n pos:Nat} {w W u:World} {v:Value} {T:ByteArray} {done:List Nat} (h:ExSt B k0 w W v n T pos done) (hB:B≤W.heap.size) (hu:Below W.heap.size W u):ExSt B k0 w u v n T pos done:=
 ⟨by rw [hu.block k0 (Array.getElem?_eq_some_iff.1 h.iter).1];exact h.iter,h.below.trans (hu.mono hB),h.isr,h.len,own_below h.own hu⟩
structure Look (l:List UInt8) (R:List Nat × Nat × Nat) (a:Nat) (nx:Int) (done:List Nat):Prop where
 at_:∃ p,a≤p∧p≤l.length∧(nx≤(a:Int)→p=a)∧((a:Int)<nx→(p:Int)=nx)∧unqL l p done=R∧∀ j,a≤j→j<p→(l.getD j 0).toNat<128
theorem Look.skip {l:List UInt8} {R:List Nat × Nat × Nat} {a:Nat} {nx:Int} {done:List Nat} (h:Look l R a nx done) (ha:(a:Int)<nx):Look l R (a+(decL (l.drop a)).2) nx done:=by
 obtain ⟨p,h1,h2,h3,h4,h5,h6⟩:=h.at_;have hp:=h4 ha;have hd:=q1N (l:=l) (k:=a) (by omega) (h6 a (Nat.le_refl _) (by omega));rw [hd];exact ⟨p,by show a+1≤p;omega,h2,fun g=>by show p=a+1;have:nx≤((a+1:Nat):Int):=g;omega,fun _=>hp,h5,fun j hj1 hj2=>h6 j (by have:a+1≤j:=hj1;omega) hj2⟩
theorem Look.here {l:List UInt8} {R:List Nat × Nat × Nat} {a:Nat} {nx:Int} {done:List Nat} (h:Look l R a nx done) (ha:nx≤(a:Int)):unqL l a done=R:=by
 obtain ⟨p,h1,h2,h3,h4,h5,h6⟩:=h.at_;rw [h3 ha] at h5;exact h5
theorem Look.rune {l:List UInt8} {R:List Nat × Nat × Nat} {a:Nat} {nx:Int} {done:List Nat} (h:unqL l a done=R) (ha:nx≤(a:Int)) (hlt:a<l.length) (hle:a+(decL (l.drop a)).2≤l.length) (h1:¬ (decL (l.drop a)).1=34) (h2:¬ (decL (l.drop a)).1<32) (h3:q0R (l.drop a)=false) (h4:¬ (decL (l.drop a)).1=92):Look l R (a+(decL (l.drop a)).2) nx (done++[(decL (l.drop a)).1]):=
 ⟨a+(decL (l.drop a)).2,Nat.le_refl _,hle,fun _=>rfl,fun g=>by omega,by rw [← unqL_rune done hlt h1 h2 h3 h4];exact h,fun j hj1 hj2=>by omega⟩
theorem Look.esc {l:List UInt8} {R:List Nat × Nat × Nat} {a:Nat} {done:List Nat} (h:unqL l a done=R) (hlt:a<l.length) (h3:q0R (l.drop a)=false) (h4:(decL (l.drop a)).1=92) (h5:(escL l a).2.2=0):Look l R (a+(decL (l.drop a)).2) ((escL l a).2.1:Int) (done++[(escL l a).1]):=by
 obtain ⟨g1,g2,g3,g4⟩:=escL_ok h5;have hd:=q1N (l:=l) (k:=a) hlt (g4 a (Nat.le_refl _) g1);rw [unqL_esc done hlt h3 h4,if_pos h5,if_pos g1] at h;rw [hd];exact ⟨(escL l a).2.1,g1,g2,fun g=>by show _=a+1;have:((escL l a).2.1:Int)≤((a+1:Nat):Int):=g;omega,fun _=>rfl,h,fun j hj1 hj2=>g4 j (by have:a+1≤j:=hj1;omega) hj2⟩
theorem esc_fault {l:List UInt8} {R:List Nat × Nat × Nat} {a:Nat} {done:List Nat} (h:unqL l a done=R) (hlt:a<l.length) (h3:q0R (l.drop a)=false) (h4:(decL (l.drop a)).1=92) (h5:¬ (escL l a).2.2=0):R=([],(escL l a).2.1,(escL l a).2.2):=by
 rw [unqL_esc done hlt h3 h4,if_neg h5] at h;exact h.symm
def UnqX (R:List Nat × Nat × Nat) (w w':World) (e:Ending):Prop:=e= .returned (.tuple #[.string ⟨(txt R.1).toArray⟩,.int .i64 (R.2.1:Int),.int .i64 (R.2.2:Int)])∧Below w.heap.size w w'
theorem unqX_mk {R:List Nat × Nat × Nat} {w w':World} {A:List Nat} {p c:Nat} {t:ByteArray} {q z:Int} (h:R=(A,p,c)) (ht:t=⟨(txt A).toArray⟩) (hq:q=(p:Int)) (hz:z=(c:Int)) (hb:Below w.heap.size w w'):UnqX R w w' (.returned (.tuple #[.string t,.int .i64 q,.int .i64 z])):=by
 subst h ht hq hz;exact ⟨rfl,hb⟩
theorem w_Unquote_ex (s:ByteArray) (k:Nat) (w:World) (hk:k<s.size) (hs:s.size≤1099511627776) (hq:s[k]=34) (hE:ErrIn w):
 Calls Tryz.prog 151 #[.string s,.int .i64 (k:Int)] w fun e w'=>UnqX (unqL s.data.toList (k+1) []) w w' e:=by
 have HP:=hQz (fun u=>w_isPlace s k u hk);have hi0:(k:Int)<(s.size:Int):=by omega
 have hi1:(k:Int)+1≤(s.size:Int):=by omega
 obtain ⟨R,hR0⟩:∃ R,unqL s.data.toList (k+1) []=R:=⟨_,rfl⟩;rw [hR0];have HL0:Hid (Look s.data.toList R (k+1) ((k:Int)+1) []):=⟨k+1,Nat.le_refl _,by rw [q1e];omega,fun _=>rfl,fun g=>by omega,hR0,fun j hj1 hj2=>by omega⟩;obtain ⟨T,hT⟩:∃ T,T=s.extract (k+1) s.size:=⟨_,rfl⟩
 have hsd:∀ p,s.data.toList.drop (k+1+p)=T.data.toList.drop p:=by
  intro p;rw [hT,q0M,List.drop_drop]
 have hTs:T.size=s.size-(k+1):=by
  have e:T.data.toList.length=T.size:=by rw [Array.length_toList];rfl
  have e2:s.data.toList.length=s.size:=by rw [Array.length_toList];rfl
  rw [← e,hT,q0M,List.length_drop,e2]
 have HSD:=hQz hsd;have HTS:=hQz hTs;have HE:=hQz hE;have hT':s.extract (k+1) s.size=T:=hT.symm;clear hT hsd hTs hE hR0;go_in;go_wp2_with fail;refine (HP.out _).mono ?_;rintro e w1 ⟨rfl,hw⟩;obtain rfl:=hw.symm;go_wp2_with fail;clear hT'
 go_loopw [7,9] (fun vt vn wr=>∃ (pos n:Nat) (nx:Int) (ao:Option Addr) (cap:Nat) (done:List Nat),pos≤T.size∧n≤4*pos∧vt= .slice ao n cap∧vn= .int .i64 nx∧Hid (ExSt w.heap.size w.heap.size w wr (.slice ao n cap) n T pos done)∧Hid (Look s.data.toList R (k+1+pos) nx done)) (fun _ _ wr=>T.size-wr.iterPos w.heap.size)
 case atStart=>exact ⟨0,0,(k:Int)+1,none,0,[],Nat.zero_le _,by omega,rfl,rfl,⟨World.iter_heap w T 0,iter_below w T 0,(fun z hz=>by cases hz),rfl,World.ownsRow_nil _ _ _ _⟩,HL0⟩
 case round=>
  clear HL0;obtain ⟨pos,n,nx,ao,cap,done,hpos,hn4,rfl,rfl,HQ,HLk⟩:=hrel;have hkr:=HQ.out.iter;have HM:Hid (wr.iterPos w.heap.size=pos):=q1s hkr;have hTsz:=HTS.out;by_cases hp:pos<T.size
  · have hKp:k+1+pos<s.size:=by omega
    have hn42:n≤4398046511104:=by omega
    obtain ⟨q,hqq⟩:∃ q,q=pos+(decL (T.data.toList.drop pos)).2:=⟨_,rfl⟩;obtain ⟨r,hr⟩:∃ r,r=(decL (T.data.toList.drop pos)).1:=⟨_,rfl⟩;have h1:=q1D (T.data.toList.drop pos);have h2:=step_le' hp;have hR:=decL_isR _ (drop_ne' hp);have hqs:k+1+q=k+1+pos+(decL (s.data.toList.drop (k+1+pos))).2:=by rw [HSD.out,hqq];omega
    have HRs:Hid (r=(decL (s.data.toList.drop (k+1+pos))).1):=by show _=_;rw [HSD.out];exact hr
    have HQs:=hQz hqs;obtain ⟨W1,hW1⟩:∃ W:World,W=wr.iterAt w.heap.size T q:=⟨_,rfl⟩;have hn1:=nxtAt wr w.heap.size T pos r q hkr hp (by rw [decode_eq T pos hpos];exact Prod.ext hr.symm (by show _=q-pos;omega)) (by omega);have hk1:=Lib.iterAt_heap wr w.heap.size T pos q hkr;have ho1:=own_iterAt HQ.out.own hkr q;have hB1:=Lib.below_iterAt HQ.out.below (Nat.le_refl _) T q;rw [← hW1] at hn1 hk1 ho1 hB1;rw [← hr] at hR;rw [← hqq] at h2;have HRI:=hQz hR;have hrlt:r≤1114111:=by unfold isR at hR;omega
    have hq1:pos+1≤q:=by omega
    have HAN:Hid (ExSt w.heap.size w.heap.size w W1 (.slice ao n cap) n T q done):=⟨hk1,hB1,HQ.out.isr,HQ.out.len,ho1⟩;have HM1:Hid (W1.iterPos w.heap.size=q):=q1s hk1;have HB1:=hQz hB1;have HST:=hQz (fun u=>w_stray s (k+1+pos) r u (by omega));rw [show ((k+1+pos:Nat):Int)=(k:Int)+1+(pos:Int) by omega] at HST;obtain ⟨sb,hsb⟩:∃ sb,sb=q0R (s.data.toList.drop (k+1+pos)):=⟨_,rfl⟩;have HSB:=hQz hsb;unfold q0R at hsb;rw [← HRs.out] at hsb;rw [← hsb] at HST;have HEs:=hQz (w_Escape_ex s (k+1+pos) W1 hKp (by omega) (HE.out.keep hB1));rw [show ((k+1+pos:Nat):Int)=(k:Int)+1+(pos:Int) by omega] at HEs;have hcv:=conv_own HQ.out.len ho1;have hplen:k+1+pos<s.data.toList.length:=by rw [q1e];exact hKp
    have HPL:=hQz hplen
    have HQL:Hid (k+1+pos+(decL (s.data.toList.drop (k+1+pos))).2≤s.data.toList.length):=by
     show _≤_;rw [← hqs,q1e];omega
    clear hW1 hk1 ho1 hB1 hkr hTsz hqq hr h1 hR HE hsb hqs hplen;by_cases hcond:(k:Int)+1+(pos:Int)<nx
    · have HL1:Hid (Look s.data.toList R (k+1+q) nx done):=by
       show Look _ _ _ _ _;rw [HQs.out];exact HLk.out.skip (by omega)
      clear HSB HEs HST HRs hcv;go_wp2_with fail;go_roundw
      case rel=>exact ⟨q,n,nx,ao,cap,done,h2,by omega,rfl,rfl,HAN,HL1⟩
      case measure=>rw [HM1.out,HM.out];omega
    have HU:=hQz (HLk.out.here (by omega));have hnx:Hid (nx≤((k+1+pos:Nat):Int)):=by show _≤_;omega
    clear HLk;by_cases hr34:r=34
    · subst hr34;have HF:Hid (R=(done,k+1+pos+1,0)):=HU.out.symm.trans (unqL_quote done HPL.out HRs.out.symm);go_wp2_with fail;refine bodyPost_ret (v:= .tuple #[.string ⟨(txt done).toArray⟩,.int .i64 ((k:Int)+1+(pos:Int)+1),.int .i64 0]) (by simp [results,Tryz.results151,go_sem]) rfl ?_;exact unqX_mk HF.out rfl (by omega) rfl HB1.out
    have q1:((r:Int)==34)=false:=by rw [bqZ];omega
    have H34:Hid (¬ (decL (s.data.toList.drop (k+1+pos))).1=34):=by rw [← HRs.out];exact hr34
    by_cases hr32:r<32
    · have q2:(r:Int)<32:=by omega
      have HF:Hid (R=([],k+1+pos,22)):=HU.out.symm.trans (unqL_ctl done HPL.out H34.out (by rw [← HRs.out];exact hr32));clear hr34 hr32;go_wp2_with fail;refine bodyPost_ret (v:= .tuple #[.string .empty,.int .i64 ((k:Int)+1+(pos:Int)),.int .i64 22]) (by simp [results,Tryz.results151,go_sem];try rfl) rfl ?_;exact unqX_mk HF.out rfl (by omega) rfl HB1.out
    have q2:¬ (r:Int)<32:=by omega
    have H32:Hid (¬ (decL (s.data.toList.drop (k+1+pos))).1<32):=by rw [← HRs.out];exact hr32
    cases sb with
    | true=>
     have HF:Hid (R=([],k+1+pos,20)):=HU.out.symm.trans (unqL_stray done HPL.out H34.out H32.out HSB.out.symm);clear hr34 hr32;go_wp2_with fail;refine (HST.out _).mono ?_;rintro e w2 ⟨rfl,hw⟩;obtain rfl:=hw.symm;go_wp2_with fail;refine bodyPost_ret (v:= .tuple #[.string .empty,.int .i64 ((k:Int)+1+(pos:Int)),.int .i64 20]) (by simp [results,Tryz.results151,go_sem];try rfl) rfl ?_;exact unqX_mk HF.out rfl (by omega) rfl HB1.out
    | false=>
     by_cases hr92:r=92
     · have H92:Hid ((decL (s.data.toList.drop (k+1+pos))).1=92):=by show _=_;rw [← HRs.out];exact hr92
       have HFa:=hQz (fun h5=>esc_fault HU.out HPL.out HSB.out.symm H92.out h5);have HLe:=hQz (fun h5=>Look.esc HU.out HPL.out HSB.out.symm H92.out h5);have hcode:=escL_code s.data.toList (k+1+pos);have HOk:=hQz (fun h5=>escL_ok (l:=s.data.toList) (k:=k+1+pos) h5);unfold EscX at HEs;obtain ⟨er,her⟩:∃ er,er=escL s.data.toList (k+1+pos):=⟨_,rfl⟩;rw [← her] at HFa HLe hcode HOk HEs;obtain ⟨z,p',c⟩:=er;rw [← HQs.out] at HLe;subst hr92;clear hr34 hr32 q1 q2 her;go_wp2_with fail;refine (HST.out _).mono ?_;rintro e w2 ⟨rfl,hw⟩;obtain rfl:=hw.symm;go_wp2_with fail;refine HEs.out.mono ?_;rintro e w2 ⟨rfl,hb2⟩;rcases hcode with hc|⟨hc,hz,hp'⟩|⟨hc,hz,hp'⟩
       · have hc':c=0:=hc;subst hc';obtain ⟨_,hple,hzR,_⟩:=HOk.out rfl;have hple':p'≤s.data.toList.length:=hple;rw [q1e] at hple';have hst:=ex_rune (HAN.out.keep HB1.out.size hb2) (Nat.le_trans HB1.out.size hb2.size) hzR hn42;have HLn:=hQz (HLe.out rfl);clear hb2 HOk HFa HLe hple hzR hc;go_wp2_with fail;refine hst.mono ?_;rintro e w3 ⟨ao3,m3,cap3,rfl,hm3,HN3⟩;have HM3:Hid (w3.iterPos w.heap.size=q):=q1s HN3.out.iter;clear hst;go_wp2_with fail;go_roundw
         case rel=>exact ⟨q,m3,(p':Int),ao3,cap3,done++[z],h2,by omega,rfl,rfl,HN3,HLn⟩
         case measure=>rw [HM3.out,HM.out];omega
       · have hc':c=23:=hc;have hpp:p'=k+1+pos:=hp';subst hc';have HF:=hQz (HFa.out (by decide));have HB2:=hQz (HB1.out.trans (hb2.mono HB1.out.size));have hz':z=0:=hz;subst hz';clear hb2 HOk HFa HLe hc hp' hz;go_wp2_with fail;refine bodyPost_ret (v:= .tuple #[.string .empty,.int .i64 ((k:Int)+1+(pos:Int)),.int .i64 23]) (by simp [results,Tryz.results151,go_sem];try rfl) rfl ?_;exact unqX_mk HF.out rfl (by omega) rfl HB2.out
       · have hc':c=24:=hc;have hpp:p'=k+1+pos:=hp';subst hc';have HF:=hQz (HFa.out (by decide));have HB2:=hQz (HB1.out.trans (hb2.mono HB1.out.size));have hz':z=0:=hz;subst hz';clear hb2 HOk HFa HLe hc hp' hz;go_wp2_with fail;refine bodyPost_ret (v:= .tuple #[.string .empty,.int .i64 ((k:Int)+1+(pos:Int)),.int .i64 24]) (by simp [results,Tryz.results151,go_sem];try rfl) rfl ?_;exact unqX_mk HF.out rfl (by omega) rfl HB2.out
     · have q3:((r:Int)==92)=false:=by rw [bqZ];omega
       have H92:Hid (¬ (decL (s.data.toList.drop (k+1+pos))).1=92):=by rw [← HRs.out];exact hr92
       have HL1:=hQz (Look.rune HU.out hnx.out HPL.out HQL.out H34.out H32.out HSB.out.symm H92.out);rw [← HQs.out,← HRs.out] at HL1;have HAp0:=hQz (ex_rune HAN.out HB1.out.size HRI.out hn42);clear hr34 hr32 hr92 HEs;go_wp2_with fail;refine (HST.out _).mono ?_;rintro e w2 ⟨rfl,hw⟩;obtain rfl:=hw.symm;go_wp2_with fail;refine HAp0.out.mono ?_;rintro e w3 ⟨ao3,m3,cap3,rfl,hm3,HN3⟩;have HM3:Hid (w3.iterPos w.heap.size=q):=q1s HN3.out.iter;go_wp2_with fail;go_roundw
       case rel=>exact ⟨q,m3,nx,ao3,cap3,done++[r],h2,by omega,rfl,rfl,HN3,HL1⟩
       case measure=>rw [HM3.out,HM.out];omega
  · have hne:=fun ty=>Lib.run_next_end_at (P:=Tryz.prog) wr w.heap.size T pos ty hkr hp;have HB:=hQz HQ.out.below
    have HF:Hid (R=([],s.size,21)):=by
     obtain ⟨p,h1,h2,h3,h4,h5,h6⟩:=HLk.out.at_;rw [q1e] at h2;rw [q1Q done (by rw [q1e];omega),q1e] at h5;exact h5.symm
    clear hkr hTsz;go_wp2_with fail;refine bodyPost_ret (v:= .tuple #[.string .empty,.int .i64 (s.size:Int),.int .i64 21]) (by simp [results,Tryz.results151,go_sem];try rfl) rfl ?_;exact unqX_mk HF.out rfl rfl rfl HB.out
end Go.Proofs.YtdjleoglphgdgaaGreatDoor
