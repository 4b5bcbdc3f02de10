import Derived.Test.YtnokkmiaeacogaaGreatM24
set_option linter.unusedVariables false
set_option linter.unusedSimpArgs false
namespace Go.Proofs.YtnokkmiaeacogaaGreat
open Go.RowKit
attribute [local go_sem] Oper.semAt_some
set_option maxRecDepth 100000
set_option maxHeartbeats 12800000
def TwElObjs (w:World) (N:Nat) (Pel:Nat→Value→Prop) (E:(Nat→Prop)→World→Nat→List Value→Prop):Prop:=∀ (i:Nat) (x:Value),i<N→Pel i x→∀ (u:World),Below w.heap.size w u→Calls Tryz.prog 95 #[x] u fun e w'=>∃ (ko2 fo2 mo2:Option Addr) (kN2 kc2 fN2 fc2 mN2 mc2:Nat) (pa2 pb2 pc2 pd2 pe2:Bool) (no2 xo2 ao2 oo2:Option Addr) (nN2 nc2 xN2 xc2 aN2 ac2 oN2 oc2:Nat),e= .returned (.agg #[.slice ko2 kN2 kc2,.slice fo2 fN2 fc2,.slice mo2 mN2 mc2,.bool pa2,.bool pb2,.bool pc2,.bool pd2,.slice no2 nN2 nc2,.bool pe2,.slice xo2 xN2 xc2,.slice ao2 aN2 ac2,.slice oo2 oN2 oc2])∧Hid (Below u.heap.size u w'∧E (fun b=>u.heap.size≤b) w' i [.slice ko2 kN2 kc2,.slice fo2 fN2 fc2,.slice mo2 mN2 mc2,.bool pa2,.bool pb2,.bool pc2,.bool pd2,.slice no2 nN2 nc2,.bool pe2,.slice xo2 xN2 xc2,.slice ao2 aN2 ac2,.slice oo2 oN2 oc2])
theorem w_twObjs (io:Option Addr) (N icap:Nat) (w:World) (Pel:Nat→Value→Prop) (E:(Nat→Prop)→World→Nat→List Value→Prop) (hE:q0t E) (hrow:RowObjs w io N Pel) (hel:TwElObjs w N Pel E) (hcap:N≤icap) (hN2:N≤1048577):
 Calls Tryz.prog 44 #[.slice io N icap] w fun e w'=>∃ o cap,e= .returned (.slice o N cap)∧Hid (TwR 8 N E w w' o cap):=by
 obtain ⟨i0,hi0,hz0,hz1,hz2⟩:=info_parts Tryz.infoGObjs;have HR:=hQz hrow;have HEl:=hQz hel;have HE:=hQz hE;clear hrow hel hE;go_enter Tryz.func44,Tryz.ntmps44;go_wp2_with fail
 go_loopw [3,4] (fun v i wr=>∃ (k:Nat) (X:List Value),k≤N∧i= .int .i64 (k:Int)∧Hid (TwS 8 E w k v X wr)) (fun _ i _=>N-(intOf i).toNat)
 case atStart=>exact ⟨0,[],Nat.zero_le _,rfl,TwS.start⟩
 case round=>
  obtain ⟨k,X,hk,rfl,HV⟩:=hrel;by_cases hlt:k<N
  · have hl1:(k:Int)<(N:Int):=by omega
    have hl0:(0:Int)≤(k:Int):=by omega
    obtain ⟨b,off,rfl,hbl,hrow⟩:=HR.out (by omega);obtain ⟨ko1,fo1,mo1,kN1,kc1,fN1,fc1,mN1,mc1,pa1,pb1,pc1,pd1,pe1,no1,xo1,ao1,oo1,nN1,nc1,xN1,xc1,aN1,ac1,oN1,oc1,⟨a_0,a_1,a_2,a_3,a_4,a_5,a_6,a_7,a_8,a_9,a_10,a_11⟩,ht⟩:=hrow k hlt;have d_0:=(HV.out.bel.cell (p:=⟨b,off+k*12,none⟩) hbl).trans a_0;have d_1:=(HV.out.bel.cell (p:=⟨b,off+k*12+1,none⟩) hbl).trans a_1;have d_2:=(HV.out.bel.cell (p:=⟨b,off+k*12+2,none⟩) hbl).trans a_2;have d_3:=(HV.out.bel.cell (p:=⟨b,off+k*12+3,none⟩) hbl).trans a_3;have d_4:=(HV.out.bel.cell (p:=⟨b,off+k*12+4,none⟩) hbl).trans a_4;have d_5:=(HV.out.bel.cell (p:=⟨b,off+k*12+5,none⟩) hbl).trans a_5;have d_6:=(HV.out.bel.cell (p:=⟨b,off+k*12+6,none⟩) hbl).trans a_6;have d_7:=(HV.out.bel.cell (p:=⟨b,off+k*12+7,none⟩) hbl).trans a_7;have d_8:=(HV.out.bel.cell (p:=⟨b,off+k*12+8,none⟩) hbl).trans a_8;have d_9:=(HV.out.bel.cell (p:=⟨b,off+k*12+9,none⟩) hbl).trans a_9;have d_10:=(HV.out.bel.cell (p:=⟨b,off+k*12+10,none⟩) hbl).trans a_10;have d_11:=(HV.out.bel.cell (p:=⟨b,off+k*12+11,none⟩) hbl).trans a_11;have HC:=hQz (HEl.out k _ hlt ht wr HV.out.bel);clear a_0 a_1 a_2 a_3 a_4 a_5 a_6 a_7 a_8 a_9 a_10 a_11 hrow hbl ht;go_wp2_with fail;refine HC.out.mono ?_;rintro e w4 ⟨ko2,fo2,mo2,kN2,kc2,fN2,fc2,mN2,mc2,pa2,pb2,pc2,pd2,pe2,no2,xo2,ao2,oo2,nN2,nc2,xN2,xc2,aN2,ac2,oN2,oc2,rfl,HR4⟩;have HV4:=hQz (HV.out.low HE.out HR4.out.1);have hdom:=HV.out.dom;have HY:=hQz (HE.out _ _ _ _ _ _ (Nat.le_refl _) (fun _ _ _=>rfl) (fun b hb _=>hdom b hb) HR4.out.2);obtain ⟨t1,t2⟩:=q0i w4 (.cells #[.slice ko2 kN2 kc2,.slice fo2 fN2 fc2,.slice mo2 mN2 mc2,.bool pa2,.bool pb2,.bool pc2,.bool pd2,.slice no2 nN2 nc2,.bool pe2,.slice xo2 xN2 xc2,.slice ao2 aN2 ac2,.slice oo2 oN2 oc2] 95) (.cells #[.slice ko2 kN2 kc2,.slice fo2 fN2 fc2,.slice mo2 mN2 mc2,.bool pa2,.bool pb2,.bool pc2,.bool pd2,.slice no2 nN2 nc2,.bool pe2,.slice xo2 xN2 xc2,.slice ao2 aN2 ac2,.slice oo2 oN2 oc2] 95);have HV5:=hQz (HV4.out.low HE.out t2);have ho:=HV5.out.own;have hle:w.heap.size≤w4.heap.size:=HV4.out.bel.size;have HT2:=hQz t2;clear HC d_0 d_1 d_2 d_3 d_4 d_5 d_6 d_7 d_8 d_9 d_10 d_11 hdom HR4 t2;go_wp2_with (at_builtin;go_loud (refine wpList_append_lies _ rfl _ _ 25 rfl w.heap.size 95 i0 (.agg #[.slice none 0 0,.slice none 0 0,.slice none 0 0,.bool false,.bool false,.bool false,.bool false,.slice none 0 0,.bool false,.slice none 0 0,.slice none 0 0,.slice none 0 0]) 12 184 Tryz.underlying25 hi0 hz0 hz1 hz2 rfl (by decide) _ _ _ rfl ho ⟨w4.heap.size+1,0,none⟩ 1 1 [.slice ko2 kN2 kc2,.slice fo2 fN2 fc2,.slice mo2 mN2 mc2,.bool pa2,.bool pb2,.bool pc2,.bool pd2,.slice no2 nN2 nc2,.bool pe2,.slice xo2 xN2 xc2,.slice ao2 aN2 ac2,.slice oo2 oN2 oc2] rfl rfl (World.news_of_block (cs:= #[.slice ko2 kN2 kc2,.slice fo2 fN2 fc2,.slice mo2 mN2 mc2,.bool pa2,.bool pb2,.bool pc2,.bool pd2,.slice no2 nN2 nc2,.bool pe2,.slice xo2 xN2 xc2,.slice ao2 aN2 ac2,.slice oo2 oN2 oc2]) (t:=95) (fr:=(0,0)) t1) (by intro u hu;simp at hu;rcases hu with rfl|rfl|rfl|rfl|rfl|rfl|rfl|rfl|rfl|rfl|rfl|rfl <;> rfl) (by decide) (by unfold maxLen;omega) (by omega) (by simp;omega) (w4.heap.size+1+1) (by simp) ?_))
    intro g5 cap5 w5 hown5 hgrow5 hat5 hlt5;have HN:Hid (TwS 8 E w (k+1) (.slice (some ⟨g5,0,none⟩) (k+1) cap5) (X++[.slice ko2 kN2 kc2,.slice fo2 fN2 fc2,.slice mo2 mN2 mc2,.bool pa2,.bool pb2,.bool pc2,.bool pd2,.slice no2 nN2 nc2,.bool pe2,.slice xo2 xN2 xc2,.slice ao2 aN2 ac2,.slice oo2 oN2 oc2]) w5):=hQz (HV5.out.app HE.out rfl hown5 hgrow5 (by simpa using hat5) (HE.out _ _ _ _ _ _ HT2.out.size (fun b _ hl=>HT2.out.block b hl) (fun b hd _=>hd) HY.out));clear hown5 hgrow5 hat5 ho t1;go_wp2_with fail;go_roundw
    case rel=>exact ⟨k+1,_,by omega,by go_num,HN⟩
    case measure=>simp [intOf];omega
  · have hl1:¬ (k:Int)<(N:Int):=by omega
    obtain rfl:k=N:=by omega
    obtain ⟨o,cap,rfl,hR⟩:=HV.out.done HE.out;go_wp2_with fail;go_ret;exact ⟨o,cap,rfl,hR⟩
theorem w_twStrings (io:Option Addr) (N icap:Nat) (keys:List ByteArray) (w:World) (hk:KIn w io keys) (hN:keys.length=N) (hcap:N≤icap) (hN2:N≤1048577):
 Calls Tryz.prog 42 #[.slice io N icap] w fun e w'=>∃ o cap,e= .returned (.slice o N cap)∧Hid (TwR 0 N (q0g keys) w w' o cap):=by
 obtain ⟨i0,hi0,hz0,hz1,hz2⟩:=info_parts Tryz.infoGStrings;have HK:=hQz hk;have HNN:=hQz hN;have HE:Hid (q0t (q0g keys)):=hQz (fun _ _ _ _ _ _ _ _ _ h=>h);clear hk hN;go_enter Tryz.func42,Tryz.ntmps42;go_wp2_with fail
 go_loopw [3,4] (fun v i wr=>∃ (k:Nat) (X:List Value),k≤N∧i= .int .i64 (k:Int)∧Hid (TwS 0 (q0g keys) w k v X wr)) (fun _ i _=>N-(intOf i).toNat)
 case atStart=>exact ⟨0,[],Nat.zero_le _,rfl,TwS.start⟩
 case round=>
  obtain ⟨k,X,hkN,rfl,HV⟩:=hrel;by_cases hlt:k<N
  · have hl1:(k:Int)<(N:Int):=by omega
    have hl0:(0:Int)≤(k:Int):=by omega
    obtain ⟨b,off,rfl,hbl,hrow⟩:=HK.out.row (by rw [HNN.out];omega);have d_0:=(HV.out.bel.cell (p:=⟨b,off+k,none⟩) hbl).trans (hrow k (by rw [HNN.out];exact hlt));obtain ⟨key,hkey⟩:∃ key,keys.getD k .empty=key:=⟨_,rfl⟩;have HKEY:=hQz hkey;rw [hkey] at d_0;have t1:=heap_alloc_new wr (.cells #[.string key] 9);have t2:=q05 wr (.cells #[.string key] 9);have HV5:=hQz (HV.out.low HE.out t2);have ho:=HV5.out.own;have hle:w.heap.size≤wr.heap.size:=HV.out.bel.size;clear hrow t2 hkey;go_wp2_with (at_builtin;go_loud (refine wpList_append_lies _ rfl _ _ 23 rfl w.heap.size 9 i0 (.string ⟨#[]⟩) 1 16 Tryz.underlying23 hi0 hz0 hz1 hz2 rfl (by decide) _ _ _ rfl ho ⟨wr.heap.size,0,none⟩ 1 1 [.string key] rfl rfl (World.news_of_block (cs:= #[.string key]) (t:=9) (fr:=(0,0)) t1) (by intro u hu;simp at hu;subst hu;rfl) (by decide) (by unfold maxLen;omega) (by omega) (by simp;omega) (wr.heap.size+1) (by simp) ?_));intro g5 cap5 w5 hown5 hgrow5 hat5 hlt5;have HN:Hid (TwS 0 (q0g keys) w (k+1) (.slice (some ⟨g5,0,none⟩) (k+1) cap5) (X++[.string key]) w5):=hQz (HV5.out.app HE.out rfl hown5 hgrow5 (by simpa using hat5) (by show [_]=[_];rw [HKEY.out]));clear hown5 hgrow5 hat5 ho t1;go_wp2_with fail;go_roundw
    case rel=>exact ⟨k+1,_,by omega,by go_num,HN⟩
    case measure=>simp [intOf];omega
  · have hl1:¬ (k:Int)<(N:Int):=by omega
    obtain rfl:k=N:=by omega
    obtain ⟨o,cap,rfl,hR⟩:=HV.out.done HE.out;go_wp2_with fail;go_ret;exact ⟨o,cap,rfl,hR⟩
theorem w_twBools (io:Option Addr) (N icap:Nat) (keys:List Bool) (w:World) (hk:BoIn w io keys) (hN:keys.length=N) (hcap:N≤icap) (hN2:N≤1048577):
 Calls Tryz.prog 127 #[.slice io N icap] w fun e w'=>∃ o cap,e= .returned (.slice o N cap)∧Hid (TwR 1 N (q0E keys) w w' o cap):=by
 obtain ⟨i0,hi0,hz0,hz1,hz2⟩:=info_parts Tryz.infoGBools;have HK:=hQz hk;have HNN:=hQz hN;have HE:Hid (q0t (q0E keys)):=hQz (fun _ _ _ _ _ _ _ _ _ h=>h);clear hk hN;go_enter Tryz.func127,Tryz.ntmps127;go_wp2_with fail
 go_loopw [3,4] (fun v i wr=>∃ (k:Nat) (X:List Value),k≤N∧i= .int .i64 (k:Int)∧Hid (TwS 1 (q0E keys) w k v X wr)) (fun _ i _=>N-(intOf i).toNat)
 case atStart=>exact ⟨0,[],Nat.zero_le _,rfl,TwS.start⟩
 case round=>
  obtain ⟨k,X,hkN,rfl,HV⟩:=hrel;by_cases hlt:k<N
  · have hl1:(k:Int)<(N:Int):=by omega
    have hl0:(0:Int)≤(k:Int):=by omega
    obtain ⟨b,off,rfl,hbl,hrow⟩:=HK.out.row (by rw [HNN.out];omega);have d_0:=(HV.out.bel.cell (p:=⟨b,off+k,none⟩) hbl).trans (hrow k (by rw [HNN.out];exact hlt));obtain ⟨key,hkey⟩:∃ key,keys[k]'(by rw [HNN.out];exact hlt)=key:=⟨_,rfl⟩;have HKEY:=hQz hkey;rw [hkey] at d_0;have t1:=heap_alloc_new wr (.cells #[.bool key] 4);have t2:=q05 wr (.cells #[.bool key] 4);have HV5:=hQz (HV.out.low HE.out t2);have ho:=HV5.out.own;have hle:w.heap.size≤wr.heap.size:=HV.out.bel.size;clear hrow t2 hkey;go_wp2_with (at_builtin;go_loud (refine wpList_append_lies _ rfl _ _ 93 rfl w.heap.size 4 i0 (.bool false) 1 1 Tryz.underlying93 hi0 hz0 hz1 hz2 rfl (by decide) _ _ _ rfl ho ⟨wr.heap.size,0,none⟩ 1 1 [.bool key] rfl rfl (World.news_of_block (cs:= #[.bool key]) (t:=4) (fr:=(0,0)) t1) (by intro u hu;simp at hu;subst hu;rfl) (by decide) (by unfold maxLen;omega) (by omega) (by simp;omega) (wr.heap.size+1) (by simp) ?_));intro g5 cap5 w5 hown5 hgrow5 hat5 hlt5;have HN:Hid (TwS 1 (q0E keys) w (k+1) (.slice (some ⟨g5,0,none⟩) (k+1) cap5) (X++[.bool key]) w5):=hQz (HV5.out.app HE.out rfl hown5 hgrow5 (by simpa using hat5) (by show [_]=[_];rw [← HKEY.out,show keys.getD k false=keys[k]'(by rw [HNN.out];exact hlt) from by simp [List.getD,show k<keys.length from by rw [HNN.out];exact hlt]]));clear hown5 hgrow5 hat5 ho t1;go_wp2_with fail;go_roundw
    case rel=>exact ⟨k+1,_,by omega,by go_num,HN⟩
    case measure=>simp [intOf];omega
  · have hl1:¬ (k:Int)<(N:Int):=by omega
    obtain rfl:k=N:=by omega
    obtain ⟨o,cap,rfl,hR⟩:=HV.out.done HE.out;go_wp2_with fail;go_ret;exact ⟨o,cap,rfl,hR⟩
end Go.Proofs.YtnokkmiaeacogaaGreat
