import Derived.Test.YtdjleoglphgdgaaGreatDoorM5
import Derived.BigQuiet
set_option linter.unusedVariables false
set_option linter.unusedSimpArgs false
namespace Go.Proofs.YtdjleoglphgdgaaGreatDoor
open Go.RowKit
set_option maxRecDepth 100000
set_option maxHeartbeats 12800000
theorem q0M (s:ByteArray) (k:Nat):(s.extract k s.size).data.toList=s.data.toList.drop k:=by
 rw [Lib.extract_data];exact List.take_of_length_le (by simp)
theorem extract_take (s:ByteArray) (k:Nat):(s.extract 0 k).data.toList=s.data.toList.take k:=by
 rw [Lib.extract_data];simp
theorem w_parse16 (t:ByteArray) (w:World) (ht:t.size=4) (hh:t.data.toList.all q1j=true):
 Calls Tryz.prog 235 #[.string t,.int .i64 16,.int .i64 16] w fun e w'=>e= .returned (.tuple #[.int .u64 ((hexN t.data.toList:Nat):Int),.nilIface])∧Below w.heap.size w w':=by
 have HC:=hQz (w_iparse16 t w ht hh);generalize ((hexN t.data.toList:Nat):Int)=n at *;clear ht hh;go_in;go_wp2_with fail;refine HC.out.mono ?_;rintro e w1 ⟨rfl,hb1⟩;have HB:=hQz hb1;clear hb1 HC;go_wp2_with fail
 go_ret2
 exact ⟨rfl,HB.out⟩
theorem w_isPlace (s:ByteArray) (at_:Nat) (w:World) (h:at_<s.size):
 Calls Tryz.prog 190 #[.string s,.int .i64 (at_:Int)] w fun e w'=>e= .returned (.bool true)∧w'=w:=by
 have h1:(at_:Int)<(s.size:Int):=by omega
 go_in;go_wp2_with fail;go_ret;exact ⟨rfl,rfl⟩
structure NumAt (s:ByteArray) (k:Nat) (ds:List UInt8):Prop where
 len:ds.length=4
 hex:ds.all q1j=true
 at_:∃ pre post,s.data.toList=pre++(92::117::ds)++post∧pre.length=k
theorem NumAt.lt {s:ByteArray} {k:Nat} {ds:List UInt8} (h:NumAt s k ds):k+6≤s.size:=by
 obtain ⟨pre,post,e,hp⟩:=h.at_;have:=congrArg List.length e;have hl:=h.len;simp at this;omega
theorem NumAt.digits {s:ByteArray} {k:Nat} {ds:List UInt8} (h:NumAt s k ds):∃ post,s.data.toList.drop k=92::117::(ds++post):=by
 obtain ⟨pre,post,e,hp⟩:=h.at_;refine ⟨post,?_⟩;rw [e,List.append_assoc,List.drop_append_of_le_length (by omega),List.drop_eq_nil_of_le (by omega)];rfl
theorem w_numberAt (s:ByteArray) (k:Nat) (ds:List UInt8) (w:World) (h:NumAt s k ds) (hs:s.size≤9223372036854775807):
 Calls Tryz.prog 217 #[.string s,.int .i64 (k:Int)] w fun e w'=>e= .returned (.tuple #[.int .i32 ((hexN ds:Nat):Int),.bool true])∧Below w.heap.size w w':=by
 have hlt:=h.lt;obtain ⟨post,hd⟩:=h.digits;have hk1:(k:Int)≤(s.size:Int):=by omega
 obtain ⟨t,ht⟩:∃ t,t=s.extract k s.size:=⟨_,rfl⟩;have hcut:=fun u=>Tryz.strings_CutPrefix t ⟨#[92,117]⟩ u;have hdt:t.data.toList=92::117::(ds++post):=by rw [ht,q0M,hd]
 have hpre:Lib.hasPrefix t.data.toList (ByteArray.mk #[92,117]).data.toList=true:=by rw [hdt];rfl
 have htrim:Lib.trimPrefix t.data.toList (ByteArray.mk #[92,117]).data.toList=ds++post:=by
  rw [hdt];rfl
 rw [hpre,htrim] at hcut;have HC:=hQz hcut;obtain ⟨r,hr⟩:∃ r:ByteArray,r=⟨(ds++post).toArray⟩:=⟨_,rfl⟩;rw [← hr] at HC;have hrs:r.size=4+post.length:=by rw [hr];simp [ByteArray.size,h.len]
 have hr4:(4:Int)≤(r.size:Int):=by omega
 have HP:Hid (∀ u,Calls Tryz.prog 235 #[.string (r.extract 0 4),.int .i64 16,.int .i64 16] u fun e w'=>e= .returned (.tuple #[.int .u64 ((hexN ds:Nat):Int),.nilIface])∧Below u.heap.size u w'):=by
  intro u
  have hx:(r.extract 0 4).data.toList=ds:=by
   rw [extract_take,hr];simp [h.len]
  have:=w_parse16 (r.extract 0 4) u (by have:=congrArg List.length hx;rw [h.len] at this;simpa using this) (by rw [hx];exact h.hex);rw [hx] at this;exact this
 have hn:hexN ds<65536:=hexN_lt ds h.hex 4 (by rw [h.len];exact Nat.le_refl _);obtain ⟨n,hnn⟩:∃ n,n=hexN ds:=⟨_,rfl⟩;rw [← hnn] at HP hn ⊢;clear hcut hpre htrim hdt hd hr hrs hnn h;go_in;go_wp2_with fail;rw [← ht];refine (HC.out _).mono ?_;rintro e w1 ⟨rfl,hw⟩;obtain rfl:=hw.symm;go_wp2_with fail;refine (HP.out _).mono ?_;rintro e w2 ⟨rfl,hb2⟩;have HB:=hQz hb2;clear hb2 HP HC ht;have hw32:IntKind.i32.wrap (n:Int)=(n:Int):=by rw [IntKind.wrap_i32];omega
 go_wp2_with fail
 go_region
 all_goals go_wp2
 all_goals go_ret2
 all_goals first|exact ⟨by rw [hw32];rfl,HB.out.drew⟩|exact ⟨rfl,HB.out.drew⟩
theorem q1o {s:ByteArray} {k:Nat} {c:UInt8} {r:List UInt8} (h:s.data.toList.drop k=c::r) (hk:k<s.size):s[k]'hk=c:=by
 have hl:k<s.data.toList.length:=by simpa using hk
 have:s[k]'hk=s.data.toList[k]'hl:=rfl;rw [this];rw [List.drop_eq_getElem_cons hl] at h;exact (List.cons.inj h).1
theorem q1i {s:ByteArray} {k:Nat} {c:UInt8} {r:List UInt8} (h:s.data.toList.drop k=c::r):s.data.toList.drop (k+1)=r:=by
 rw [← List.drop_drop,h];rfl
theorem nonhex (c:UInt8) (h:q1j c=false):(c.toNat=95∧(c.toNat ||| 32)=127)∨(c.toNat<48∧(c.toNat ||| 32)<97)∨(58≤c.toNat∧c.toNat≠95∧(c.toNat ||| 32)<97)∨(58≤c.toNat∧c.toNat≠95∧122<(c.toNat ||| 32))∨(58≤c.toNat∧c.toNat≠95∧103≤(c.toNat ||| 32)∧(c.toNat ||| 32)≤122):=by
 unfold q1j at h;simp only [Bool.or_eq_false_iff,Bool.and_eq_false_iff,decide_eq_false_iff_not] at h;have h95:c.toNat=95→(c.toNat ||| 32)=127:=by intro e;rw [e];decide
 have h48:∀ m:Fin 48,(m.val ||| 32)<97:=by decide
 by_cases a:c.toNat<48
 · right;left;exact ⟨a,h48 ⟨c.toNat,a⟩⟩
 · by_cases e:c.toNat=95
   · left;exact ⟨e,h95 e⟩
   · omega
theorem w_iparse16_bad (t:ByteArray) (w:World) (ht:t.size=4) (hh:t.data.toList.all q1j=false):
 Calls Tryz.prog 248 #[.string t,.int .i64 16,.int .i64 16] w fun e w'=>e= .returned (.tuple #[.int .u64 0,.iface 193 (.int .i64 2)])∧Below w.heap.size w w':=by
 have hemp:t.toList.isEmpty=false:=by
  rw [← decide_eq_emptyBytes];exact decide_eq_false (fun h=>by rw [h] at ht;simp at ht)
 have hcv:=Lib.run_convert_string_bytes (P:=Tryz.prog) w 9 48 5 t (u:= .string) Tryz.underlying9 Tryz.underlying48 Tryz.underlying5;have hB:∀ j,j<t.size→(Lib.bytesWorld w 5 t).cell? ⟨w.heap.size,j,none⟩=some (.int .u8 (t.data.toList.getD j 0).toNat):=fun j hj=>Lib.bytesWorld_cell w 5 t j hj;have HBW:=hQz (Lib.bytesWorld_below w 5 t);obtain ⟨W1,hW1⟩:∃ W1,W1=Lib.bytesWorld w 5 t:=⟨_,rfl⟩;rw [← hW1] at hcv hB HBW;clear hW1;have HBc:=hQz hB;have HH:=hQz hh;have HT:=hQz ht;rw [ht] at hcv;clear hB hh;go_in
 go_wp2
 go_loop [12,13,101] (fun vu vn vi=>∃ (k:Nat) (n:Int),vu= .bool false∧vn= .int .u64 n∧vi= .int .i64 k∧k≤4∧0≤n∧n<65536∧Hid (n=((hexN (t.data.toList.take k):Nat):Int)∧(t.data.toList.take k).all q1j=true)) (fun _ _ vi=>4-(intOf vi).toNat)
 case atStart=>exact ⟨0,0,rfl,rfl,rfl,by omega,by omega,by omega,rfl,rfl⟩
 case round=>
  obtain ⟨k,n,rfl,rfl,rfl,hk,hn0,hn,HN⟩:=hrel;by_cases hlt:k<4
  · have hk4:(k:Int)<4:=by omega
    have cb:=HBc.out k (by rw [HT.out];exact hlt);obtain ⟨c,hc⟩:∃ c,c=t.data.toList.getD k 0:=⟨_,rfl⟩;rw [← hc] at cb
    cases hhc:q1j c with
    | false=>
     have hlo:=fun u=>Tryz.internal_strconv_lower (c.toNat:Int) u;have h256:=c.toNat_lt;rw [or32 _ h256] at hlo;have HLo:=hQz hlo;clear hlo HN hc;have hnh:=nonhex c hhc;clear hhc;generalize (c.toNat ||| 32)=l at *;generalize c.toNat=m at *;rcases hnh with ⟨rfl,rfl⟩|⟨h1,h2⟩|⟨h1,h2,h3⟩|⟨h1,h2,h3⟩|⟨h1,h2,h3,h4⟩
     · go_wp2_with (go_at_call 263;refine (HLo.out _).mono ?_;rintro e w' ⟨rfl,rfl⟩)
       go_ret2
       exact ⟨rfl,HBW.out⟩
     · have q1:((m:Int)==95)=false:=by rw [bqZ];omega
       have q2:¬ (48:Int)≤(m:Int):=by omega
       have q3:¬ (97:Int)≤(l:Int):=by omega
       go_wp2_with (go_at_call 263;refine (HLo.out _).mono ?_;rintro e w' ⟨rfl,rfl⟩)
       go_ret2
       exact ⟨rfl,HBW.out⟩
     · have q1:((m:Int)==95)=false:=by rw [bqZ];omega
       have q2:¬ (m:Int)≤57:=by omega
       have q3:¬ (97:Int)≤(l:Int):=by omega
       go_wp2_with (go_at_call 263;refine (HLo.out _).mono ?_;rintro e w' ⟨rfl,rfl⟩)
       go_ret2
       exact ⟨rfl,HBW.out⟩
     · have q1:((m:Int)==95)=false:=by rw [bqZ];omega
       have q2:¬ (m:Int)≤57:=by omega
       have q3:¬ (l:Int)≤122:=by omega
       go_wp2_with (go_at_call 263;refine (HLo.out _).mono ?_;rintro e w' ⟨rfl,rfl⟩)
       go_ret2
       exact ⟨rfl,HBW.out⟩
     · have q1:((m:Int)==95)=false:=by rw [bqZ];omega
       have q2:¬ (m:Int)≤57:=by omega
       have q3:(103:Int)≤(l:Int):=by omega
       have q4:(l:Int)≤122:=by omega
       go_wp2_with (go_at_call 263;refine (HLo.out _).mono ?_;rintro e w' ⟨rfl,rfl⟩)
       go_ret2
       exact ⟨rfl,HBW.out⟩
    | true=>
     have HS:Hid (((hexN (t.data.toList.take (k+1)):Nat):Int)=n*16+((hexd c:Nat):Int)):=by
      show _=_;rw [take_snoc4 t k (by rw [HT.out];exact hlt),hexN_snoc,HN.out.1,hc];omega
     have hall:(t.data.toList.take (k+1)).all q1j=true:=by
      rw [take_snoc4 t k (by rw [HT.out];exact hlt),List.all_append,HN.out.2,← hc];simp [hhc]
     have HALL:=hQz hall
     have hb:n*16+((hexd c:Nat):Int)<65536:=by
      rw [← HS.out];have:=hexN_lt _ hall 4 (by simp;omega);omega
     have hlo:=fun u=>Tryz.internal_strconv_lower (c.toNat:Int) u;have h256:=c.toNat_lt;rw [or32 _ h256] at hlo;have HLo:=hQz hlo;clear hlo HN hc hall;rcases hex_cases hhc with ⟨h1,h2,h3⟩|⟨h1,h2,h3,h4⟩
     · rw [h3] at HS hb;clear hhc h3 HLo;generalize c.toNat=m at *;have hnm1:(48:Int)≤(m:Int):=by omega
       have hnm2:(m:Int)≤57:=by omega
       go_wp2
       go_round
       case rel=>exact ⟨k+1,n*16+((m-48:Nat):Int),rfl,congrArg (Value.int .u64) (by omega),by go_num,by omega,by omega,by omega,HS.out.symm,HALL.out⟩
       case measure=>simp [intOf];omega
     · rw [h4] at HS hb
       have h95:((c.toNat:Int)==95)=false:=by
        rw [bqZ];intro e;have e2:c.toNat=95:=by omega
        rw [e2] at h3;exact absurd h3 (by decide)
       clear hhc h4;generalize (c.toNat ||| 32)=l at *;generalize c.toNat=m at *;have hm58:¬ (m:Int)≤57:=by omega
       have hl1:(97:Int)≤(l:Int):=by omega
       have hl2:(l:Int)≤122:=by omega
       go_wp2_with (go_at_call 263;refine (HLo.out _).mono ?_;rintro e w' ⟨rfl,rfl⟩)
       go_round
       case rel=>exact ⟨k+1,n*16+((l-87:Nat):Int),rfl,congrArg (Value.int .u64) (by omega),by go_num,by omega,by omega,by omega,HS.out.symm,HALL.out⟩
       case measure=>simp [intOf];omega
  · obtain rfl:k=4:=by omega
    exfalso;have:=HN.out.2;rw [List.take_of_length_le (by have:=HT.out;simp;omega),HH.out] at this
    cases this
end Go.Proofs.YtdjleoglphgdgaaGreatDoor
