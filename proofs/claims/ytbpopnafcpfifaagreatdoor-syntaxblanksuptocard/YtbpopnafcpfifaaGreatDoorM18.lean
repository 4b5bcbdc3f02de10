import Derived.Test.YtbpopnafcpfifaaGreatDoorM17
set_option linter.unusedVariables false
set_option linter.unusedSimpArgs false
namespace Go.Proofs.YtbpopnafcpfifaaGreatDoor
open Go.RowKit
def EscRx (s:ByteArray) (k:Nat) (w w':World) (e:Ending):Prop:=e= .returned (.tuple #[.int .i64 ((escL s.data.toList k).1:Int),.int .i64 ((escL s.data.toList k).2.1:Int),.int .i64 ((escL s.data.toList k).2.2:Int)])∧w'=w
theorem q1y {s:ByteArray} {k:Nat} {w:World} {a p c:Nat} {r q z:Int} (h:escL s.data.toList k=(a,p,c)) (hr:r=(a:Int)) (hq:q=(p:Int)) (hz:z=(c:Int)):EscRx s k w w (.returned (.tuple #[.int .i64 r,.int .i64 q,.int .i64 z])):=by
 subst hr hq hz;exact ⟨by rw [h],rfl⟩
theorem short_num {l:List UInt8} {k n:Nat} (h:numL (l.drop k)=some n):q0w (l.drop k)=none:=by
 obtain ⟨_,_,_,h1,h2⟩:=q2X h
 cases hs:q0w (l.drop k) with
 | none=>rfl
 | some r=>
  have:=(shortL_ok hs).2.2.2.2;rw [h2] at this;have e:shN 117=none:=by decide
  rw [e] at this;cases this
set_option maxRecDepth 100000 in
set_option maxHeartbeats 6400000 in
theorem w_rEscape (s:ByteArray) (k:Nat) (w:World) (hk:k<s.size) (hs:s.size≤1099511627776):
 Calls Tryz.prog 26 #[.string s,.int .i64 (k:Int)] w fun e w'=>EscRx s k w w' e:=by
 have hi0:(k:Int)<(s.size:Int):=by omega
 have hi0':¬ (s.size:Int)≤(k:Int):=by omega
 have HN:=hQz (fun u=>q2R s k u (by omega) hs);unfold rnum at HN
 cases hn:numL (s.data.toList.drop k) with
 | none=>
  rw [hn] at HN;have HN1:Hid (∀ u,Calls Tryz.prog 58 #[.string s,.int .i64 (k:Int)] u fun e w'=>e= .returned (.int .i64 (-1))∧w'=u):=HN.out;by_cases a0:s[k]=92
  · by_cases hend:k+1<s.size
    · have hi1:(k:Int)+1<(s.size:Int):=by omega
      obtain ⟨c,hc⟩:∃ c,s[k+1]'hend=c:=⟨_,rfl⟩;have HSh:=hQz (fun u=>w_rshort c u)
      have hsl:q0w (s.data.toList.drop k)=shN c:=by
       unfold q0w;rw [if_pos ⟨by rw [q14,Nat.add_zero,byteD hk];exact a0,by rw [List.length_drop,q0I];omega⟩,q14,byteD hend,hc]
      unfold shI at HSh
      cases hcs:shN c with
      | none=>
       rw [hcs] at HSh hsl;have HSh1:Hid (∀ u,Calls Tryz.prog 59 #[.int .u8 ((c.toNat:Nat):Int)] u fun e w'=>e= .returned (.int .i64 (-1))∧w'=u):=HSh.out;have HF:=hQz (escL_none hsl hn);clear hsl hn hcs HN HSh;go_enter Tryz.func26,Tryz.ntmps26;go_wp2_with fail;refine (HN1.out _).mono ?_;rintro e w1 ⟨rfl,hw⟩;obtain rfl:=hw.symm;go_wp2_with fail;refine (HSh1.out _).mono ?_;rintro e w1 ⟨rfl,hw⟩;obtain rfl:=hw.symm;go_wp2_with fail;refine bodyPost_ret (v:= .tuple #[.int .i64 0,.int .i64 (k:Int),.int .i64 23]) (by simp [results,Tryz.results26,go_sem]) rfl ?_;exact q1y HF.out rfl rfl rfl
      | some r=>
       rw [hcs] at HSh hsl;have HSh1:Hid (∀ u,Calls Tryz.prog 59 #[.int .u8 ((c.toNat:Nat):Int)] u fun e w'=>e= .returned (.int .i64 (r:Int))∧w'=u):=HSh.out;have HF:=hQz (escL_short hsl);have hr128:=(shN_ok hcs).2.1;have hr0:(0:Int)≤(r:Int):=by omega
       clear hsl hn hcs HN HSh;go_enter Tryz.func26,Tryz.ntmps26;go_wp2_with fail;refine (HN1.out _).mono ?_;rintro e w1 ⟨rfl,hw⟩;obtain rfl:=hw.symm;go_wp2_with fail;refine (HSh1.out _).mono ?_;rintro e w1 ⟨rfl,hw⟩;obtain rfl:=hw.symm;go_wp2_with fail;refine (HSh1.out _).mono ?_;rintro e w1 ⟨rfl,hw⟩;obtain rfl:=hw.symm;go_wp2_with fail;refine bodyPost_ret (v:= .tuple #[.int .i64 (r:Int),.int .i64 ((k:Int)+2),.int .i64 0]) (by simp [results,Tryz.results26,go_sem]) rfl ?_;exact q1y HF.out rfl (by omega) rfl
    · have hi1:¬ (k:Int)+1<(s.size:Int):=by omega
      have HF:Hid (escL s.data.toList k=(0,k,23)):=by
       refine escL_none ?_ hn;unfold q0w;rw [if_neg];rintro ⟨_,h2⟩;rw [List.length_drop,q0I] at h2;omega
      clear hn HN;go_enter Tryz.func26,Tryz.ntmps26;go_wp2_with fail;refine (HN1.out _).mono ?_;rintro e w1 ⟨rfl,hw⟩;obtain rfl:=hw.symm;go_wp2_with fail;refine bodyPost_ret (v:= .tuple #[.int .i64 0,.int .i64 (k:Int),.int .i64 23]) (by simp [results,Tryz.results26,go_sem]) rfl ?_;exact q1y HF.out rfl rfl rfl
  · have HF:Hid (escL s.data.toList k=(0,k,23)):=by
     refine escL_none ?_ hn;unfold q0w;rw [if_neg];rintro ⟨h1,_⟩;rw [q14,Nat.add_zero,byteD hk] at h1;exact a0 h1
    have hb:((((s[k]).toNat:Nat):Int)==92)=false:=by
     rw [bqZ];intro e;apply a0;apply UInt8.toNat_inj.1;have:(92:UInt8).toNat=92:=rfl;omega
    clear hn a0 HN;go_enter Tryz.func26,Tryz.ntmps26;go_wp2_with fail;refine (HN1.out _).mono ?_;rintro e w1 ⟨rfl,hw⟩;obtain rfl:=hw.symm;go_wp2_with fail;refine bodyPost_ret (v:= .tuple #[.int .i64 0,.int .i64 (k:Int),.int .i64 23]) (by simp [results,Tryz.results26,go_sem]) rfl ?_;exact q1y HF.out rfl rfl rfl
 | some n=>
  rw [hn] at HN;obtain ⟨hk6,hn0,_⟩:=q2X hn;rw [q0I] at hk6;have hsn:=short_num hn;obtain ⟨z,hz⟩:∃ z:Int,(n:Int)=z:=⟨_,rfl⟩
  have HN1:Hid (∀ u,Calls Tryz.prog 58 #[.string s,.int .i64 (k:Int)] u fun e w'=>e= .returned (.int .i64 z)∧w'=u):=by
   intro u;have:=HN.out u;simp only [hz] at this;exact this
  have hz0:0≤z:=by omega
  have hz1:z≤65535:=by omega
  have HZ:=hQz hz;have HSN:=hQz hsn;have HNN:=hQz hn;clear HN hsn hn hn0 hz;have hcs:z<55296∨(¬ z<55296∧57343<z)∨(¬ z<55296∧¬ 57343<z∧56320≤z)∨(¬ z<55296∧¬ 57343<z∧¬ 56320≤z):=by omega
  have hz00:¬ z<0:=by omega
  rcases hcs with h1|⟨h1,h2⟩|⟨h1,h2,h3⟩|⟨h1,h2,h3⟩
  · have HF:=hQz (escL_one HSN.out HNN.out (by have:=HZ.out;omega));go_enter Tryz.func26,Tryz.ntmps26;go_wp2_with fail;refine (HN1.out _).mono ?_;rintro e w1 ⟨rfl,hw⟩;obtain rfl:=hw.symm;go_wp2_with fail;refine bodyPost_ret (v:= .tuple #[.int .i64 z,.int .i64 ((k:Int)+6),.int .i64 0]) (by simp [results,Tryz.results26,go_sem]) rfl ?_;exact q1y HF.out HZ.out.symm (by omega) rfl
  · have HF:=hQz (escL_one HSN.out HNN.out (by have:=HZ.out;omega));go_enter Tryz.func26,Tryz.ntmps26;go_wp2_with fail;refine (HN1.out _).mono ?_;rintro e w1 ⟨rfl,hw⟩;obtain rfl:=hw.symm;go_wp2_with fail;refine bodyPost_ret (v:= .tuple #[.int .i64 z,.int .i64 ((k:Int)+6),.int .i64 0]) (by simp [results,Tryz.results26,go_sem]) rfl ?_;exact q1y HF.out HZ.out.symm (by omega) rfl
  · have HF:=hQz (escL_low HSN.out HNN.out (by have:=HZ.out;omega) (by have:=HZ.out;omega));obtain ⟨v,hv⟩:∃ v,rnum s.data.toList (k+6)=v:=⟨_,rfl⟩
    have HN2:Hid (∀ u,Calls Tryz.prog 58 #[.string s,.int .i64 ((k:Int)+6)] u fun e w'=>e= .returned (.int .i64 v)∧w'=u):=by
     intro u;have:=q2R s (k+6) u hk6 hs;rw [show ((k+6:Nat):Int)=(k:Int)+6 by omega,hv] at this;exact this
    clear hv;go_enter Tryz.func26,Tryz.ntmps26;go_wp2_with fail;refine (HN1.out _).mono ?_;rintro e w1 ⟨rfl,hw⟩;obtain rfl:=hw.symm;go_wp2_with fail;refine (HN2.out _).mono ?_;rintro e w1 ⟨rfl,hw⟩;obtain rfl:=hw.symm;go_wp2_with fail;refine bodyPost_ret (v:= .tuple #[.int .i64 0,.int .i64 (k:Int),.int .i64 24]) (by simp [results,Tryz.results26,go_sem]) rfl ?_;exact q1y HF.out rfl rfl rfl
  · have HNum:=fun u=>q2R s (k+6) u hk6 hs;rw [show ((k+6:Nat):Int)=(k:Int)+6 by omega] at HNum;unfold rnum at HNum
    cases hm:numL (s.data.toList.drop (k+6)) with
    | none=>
     rw [hm] at HNum;have HN2:Hid (∀ u,Calls Tryz.prog 58 #[.string s,.int .i64 ((k:Int)+6)] u fun e w'=>e= .returned (.int .i64 (-1))∧w'=u):=HNum;have HF:=hQz (escL_alone HSN.out HNN.out (by have:=HZ.out;omega) (by have:=HZ.out;omega) hm);clear hm HNum;go_enter Tryz.func26,Tryz.ntmps26;go_wp2_with fail;refine (HN1.out _).mono ?_;rintro e w1 ⟨rfl,hw⟩;obtain rfl:=hw.symm;go_wp2_with fail;refine (HN2.out _).mono ?_;rintro e w1 ⟨rfl,hw⟩;obtain rfl:=hw.symm;go_wp2_with fail;refine bodyPost_ret (v:= .tuple #[.int .i64 0,.int .i64 (k:Int),.int .i64 24]) (by simp [results,Tryz.results26,go_sem]) rfl ?_;exact q1y HF.out rfl rfl rfl
    | some m=>
     rw [hm] at HNum;have hm0:=(q2X hm).2.1;obtain ⟨y,hy⟩:∃ y:Int,(m:Int)=y:=⟨_,rfl⟩
     have HN2:Hid (∀ u,Calls Tryz.prog 58 #[.string s,.int .i64 ((k:Int)+6)] u fun e w'=>e= .returned (.int .i64 y)∧w'=u):=by
      intro u;have:=HNum u;simp only [hy] at this;exact this
     have hy0:0≤y:=by omega
     have hy1:y≤65535:=by omega
     have HY:=hQz hy;have HMM:=hQz hm;clear hm hy HNum hm0;have hls:y<56320∨(¬ y<56320∧57343<y)∨(¬ y<56320∧¬ 57343<y):=by omega
     rcases hls with g1|⟨g1,g2⟩|⟨g1,g2⟩
     · have HF:=hQz (escL_bad HSN.out HNN.out (by have:=HZ.out;omega) (by have:=HZ.out;omega) HMM.out (by have:=HY.out;omega));go_enter Tryz.func26,Tryz.ntmps26;go_wp2_with fail;refine (HN1.out _).mono ?_;rintro e w1 ⟨rfl,hw⟩;obtain rfl:=hw.symm;go_wp2_with fail;refine (HN2.out _).mono ?_;rintro e w1 ⟨rfl,hw⟩;obtain rfl:=hw.symm;go_wp2_with fail;refine bodyPost_ret (v:= .tuple #[.int .i64 0,.int .i64 (k:Int),.int .i64 24]) (by simp [results,Tryz.results26,go_sem]) rfl ?_;exact q1y HF.out rfl rfl rfl
     · have HF:=hQz (escL_bad HSN.out HNN.out (by have:=HZ.out;omega) (by have:=HZ.out;omega) HMM.out (by have:=HY.out;omega));go_enter Tryz.func26,Tryz.ntmps26;go_wp2_with fail;refine (HN1.out _).mono ?_;rintro e w1 ⟨rfl,hw⟩;obtain rfl:=hw.symm;go_wp2_with fail;refine (HN2.out _).mono ?_;rintro e w1 ⟨rfl,hw⟩;obtain rfl:=hw.symm;go_wp2_with fail;refine bodyPost_ret (v:= .tuple #[.int .i64 0,.int .i64 (k:Int),.int .i64 24]) (by simp [results,Tryz.results26,go_sem]) rfl ?_;exact q1y HF.out rfl rfl rfl
     · have HF:=hQz (escL_two HSN.out HNN.out (by have:=HZ.out;omega) (by have:=HZ.out;omega) HMM.out (by have:=HY.out;omega) (by have:=HY.out;omega));go_enter Tryz.func26,Tryz.ntmps26;go_wp2_with fail;refine (HN1.out _).mono ?_;rintro e w1 ⟨rfl,hw⟩;obtain rfl:=hw.symm;go_wp2_with fail;refine (HN2.out _).mono ?_;rintro e w1 ⟨rfl,hw⟩;obtain rfl:=hw.symm;go_wp2_with fail;refine bodyPost_ret (v:= .tuple #[.int .i64 (65536+(z-55296)*1024+y-56320),.int .i64 ((k:Int)+12),.int .i64 0]) (by simp [results,Tryz.results26,go_sem]) rfl ?_;exact q1y HF.out (by have:=HZ.out;have:=HY.out;omega) (by omega) rfl
end Go.Proofs.YtbpopnafcpfifaaGreatDoor
