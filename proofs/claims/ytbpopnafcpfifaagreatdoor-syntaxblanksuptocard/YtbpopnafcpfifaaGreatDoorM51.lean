import Derived.Test.YtbpopnafcpfifaaGreatDoorM50
import Derived.Test.YtbpopnafcpfifaaGreatDoorM37
import Derived.Test.YtbpopnafcpfifaaGreatDoorM41
import Derived.Deep.Cut
set_option linter.unusedVariables false
set_option linter.unusedSimpArgs false
namespace Go.Proofs.YtbpopnafcpfifaaGreatDoor
open Go.RowKit Go.Shelf
attribute [local go_sem] Oper.semAt_some
theorem NdI.sameD {D:Nat→Prop} {W:World} {T:NT} {d:NV} (h:NdI D W T d):∃ k,InA W k T d.v:=by
 obtain ⟨k,h⟩:=h;exact ⟨k,h.keep (Nat.le_refl _) (fun _ _ _=>rfl) (fun _ _ _=>trivial)⟩
theorem ba_appD (a b:ByteArray):(a++b).data.toList=a.data.toList++b.data.toList:=by simp
theorem q2z (a:ByteArray):a.size=a.data.toList.length:=by rw [Array.length_toList];rfl
def PsF (R:Pr NT) (W:World) (v:Value) (er q:Nat):Prop:=match R with
 | .ok T _ _=>(∃ k,InA W k T v)∧er=0∧q=0
 | .bad e z=>er=e∧q=z
theorem PsE.f {R:Pr NT} {lo:Nat} {W:World} {d:NV} {er q:Nat} (h:PsE R lo W d er q):PsF R W d.v er q:=by
 unfold PsE at h;unfold PsF
 cases R with
 | ok T t o=>exact ⟨h.1.sameD,h.2⟩
 | bad e z=>exact h.2
theorem PsF.low {R:Pr NT} {W W':World} {v:Value} {er q:Nat} (h:PsF R W v er q) (hb:Below W.heap.size W W'):PsF R W' v er q:=by
 unfold PsF at*
 cases R with
 | ok T t o=>
  obtain ⟨⟨k,hk⟩,h2⟩:=h;exact ⟨⟨k,hk.low hb⟩,h2⟩
 | bad e z=>exact h
theorem PsE.f2 {R:Pr NT} {lo:Nat} {W W':World} {d:NV} {er q:Nat} (h:PsE R lo W d er q) (hb:∀ b,lo≤b→b<W.heap.size→W'.heap[b]? =W.heap[b]?) (hz:W.heap.size≤W'.heap.size):PsF R W' d.v er q:=by
 unfold PsE at h;unfold PsF
 cases R with
 | ok T t o=>
  obtain ⟨⟨k,hk⟩,h2⟩:=h;exact ⟨⟨k,hk.keep hz (fun b hd hl=>hb b hd hl) (fun _ _ _=>trivial)⟩,h2⟩
 | bad e z=>exact h.2
theorem rem_lt {k:Int} {N:Nat} (h:0<N):∃ i:Nat,i<N∧(k.tmod (N:Int)=(i:Int)∨(k.tmod (N:Int)= -(i:Int)∧0<i)):=by
 have h1:=Int.tmod_lt_of_pos k (b:=(N:Int)) (by omega)
 have h2: -(N:Int)<k.tmod (N:Int):=by
  have:=Int.tmod_lt_of_pos (-k) (b:=(N:Int)) (by omega);rw [Int.neg_tmod] at this;omega
 rcases Int.lt_or_le (k.tmod (N:Int)) 0 with h3|h3
 · exact ⟨(-(k.tmod (N:Int))).toNat,by omega,.inr ⟨by omega,by omega⟩⟩
 · exact ⟨(k.tmod (N:Int)).toNat,by omega,.inl (by omega)⟩
set_option maxRecDepth 100000 in
set_option maxHeartbeats 3200000 in
theorem w_SyntaxBlanks (s:ByteArray) (k what:Int) (hs:s.size≤1048576) (w:World) (hE:ErrIn w) (hO:OpsX w):Calls Tryz.prog 4 #[.string s,.int .i64 k,.int .i64 what] w fun e w'=>e= .returned (.bool true)∧Below w.heap.size w w':=by
 have HRs:=hQz (w_rScan16 s w (by omega));have HWk:Hid (∀ u,Below w.heap.size w u→Calls Tryz.prog 6 #[] u fun e w'=>e= .returned (.bool true)∧Below u.heap.size u w'):=fun u hb=>worksX u (hE.keep hb) (hO.keep hb);unfold ScR at HRs;go_enter Tryz.func4,Tryz.ntmps4;go_wp2_with fail;refine HRs.out.mono ?_;rintro e w1 ⟨⟨ha,so1,sc1,rfl,HR1⟩|⟨pre1,x1,ha1,hx1,rfl⟩,hb1⟩
 case inr=>
  have HB1:=hQz hb1;clear hb1 HRs;have hne:((x1.err:Int)==0)=false:=by rw [bqZ];omega
  go_wp2_with fail;refine (HWk.out _ HB1.out).mono ?_;rintro e w6 ⟨rfl,hb⟩;have HB6:=hQz (HB1.out.trans (hb.mono HB1.out.size));clear hb;go_wp2_with fail;go_ret;exact ⟨rfl,HB6.out⟩
 case inl=>
  have HB1:=hQz hb1;clear hb1 HRs;by_cases hN0:(scW s.data.toList).length=0
  · rw [hN0] at HR1 ⊢;go_wp2_with fail;refine (HWk.out _ HB1.out).mono ?_;rintro e w6 ⟨rfl,hb⟩;have HB6:=hQz (HB1.out.trans (hb.mono HB1.out.size));clear hb;go_wp2_with fail;go_ret;exact ⟨rfl,HB6.out⟩
  · have hsm:=sc_tok (l:=s.data.toList) _ _ [] (q0Y (Nat.zero_le _)).2 ha;obtain ⟨t1,c1⟩:=trow_own HR1.out;have T1:=hQz t1;have hlw:=scW_len s.data.toList;obtain ⟨l,hl⟩:∃ l,l=s.data.toList:=⟨_,rfl⟩;obtain ⟨N,hN⟩:∃ N,N=(scW s.data.toList).length:=⟨_,rfl⟩;have HNN:=hQz hN;rw [← hN] at c1 hlw hN0 ⊢;have hne:((N:Int)==0)=false:=by rw [bqZ];omega
    have hne2:¬ (N:Int)=0:=by omega
    clear hN t1;obtain ⟨i,hi,hr⟩:=rem_lt (k:=k) (N:=N) (by omega)
    go_upto_if 39 with fail
    go_cut [10] from 11 (fun s10 wx=>s10= .int .i64 (i:Int)∧wx=w1)
    case first=>
     rcases hr with hr|⟨hr,hp⟩
     · have hd:decide (k.tmod (N:Int)<0)=false:=decide_eq_false (by omega);go_wp2_with fail
       go_meet
       exact ⟨by rw [hr],by first|rfl|trivial|assumption⟩
     · have hd:decide (k.tmod (N:Int)<0)=true:=decide_eq_true (by omega);go_wp2_with fail
       go_meet
       have hib:(i:Int)<9223372036854775808:=by have:=q08 s;omega
       exact ⟨by congr 1;unfold wrap64;omega,by first|rfl|trivial|assumption⟩
    case rest=>
     obtain ⟨rfl,hwc⟩:=hcut;obtain rfl:=hwc.symm;have hi2:i<(scW s.data.toList).length:=by rw [← HNN.out];exact hi
     obtain ⟨g,off,rfl,hg,a0,a1,a2,a3⟩:=T1.out i hi2;obtain ⟨_,_,_,hta⟩:=hsm _ (List.getElem_mem hi2);have HM:Hid (∃ t∈scW s.data.toList,t.at_=(scW s.data.toList)[i].at_):=⟨_,List.getElem_mem hi2,rfl⟩;have HAll:=hQz ha;clear hsm T1 hr ha;generalize (scW s.data.toList)[i]=t at *;obtain ⟨kd,pa,fi,tx,er⟩:=t;dsimp only at HM a0 a1 a2 a3 hta;obtain ⟨tb,htb⟩:∃ tb:ByteArray,(⟨tx.toArray⟩:ByteArray)=tb:=⟨_,rfl⟩;rw [htb] at a3;have hi1:(i:Int)<(N:Int):=by omega
     have hi0:(0:Int)≤(i:Int):=by omega
     have HB2:Hid (∀ x,Below w.heap.size w (w1.alloc x)):=fun x=>HB1.out.trans ((q0a w1 _).mono HB1.out.size);clear htb hi2 HR1;by_cases hk8:kd=8
     · subst hk8;go_wp2_with fail;refine (HWk.out _ (HB2.out _)).mono ?_;rintro e w6 ⟨rfl,hb⟩;have HB6:=hQz ((HB2.out _).trans (hb.mono (HB2.out _).size));clear hb;go_wp2_with fail;go_ret;exact ⟨rfl,HB6.out⟩
     by_cases hk9:kd=9
     · subst hk9;go_wp2_with fail;refine (HWk.out _ (HB2.out _)).mono ?_;rintro e w6 ⟨rfl,hb⟩;have HB6:=hQz ((HB2.out _).trans (hb.mono (HB2.out _).size));clear hb;go_wp2_with fail;go_ret;exact ⟨rfl,HB6.out⟩
     have e8:((kd:Int)==8)=false:=by rw [bqZ];omega
     have e9:((kd:Int)==9)=false:=by rw [bqZ];omega
     go_upto_region 10 with fail;obtain ⟨W2,hW2⟩:∃ W2,w1.alloc (.cells #[.int .i64 (kd:Int),.int .i64 (pa:Int),.int .i64 (fi:Int),.string tb] 39)=W2:=⟨_,rfl⟩;have HX2:Hid (W2.heap[w1.heap.size]? =some (.cells #[.int .i64 (kd:Int),.int .i64 (pa:Int),.int .i64 (fi:Int),.string tb] 39 (0,0))):=by rw [← hW2];exact heap_alloc_new _ _
     have HBW:Hid (Below w.heap.size w W2):=by rw [← hW2];exact HB2.out _
     rw [hW2];clear hW2 HB2 a0 a1 a2 a3 e8 e9 hk8 hk9 hi1 hi0 hg hi HB1;obtain ⟨BX,hBX⟩:∃ BX,w1.heap.size=BX:=⟨_,rfl⟩;rw [hBX] at HX2 ⊢;clear hBX;obtain ⟨G1,hG1⟩:∃ G1:ByteArray,G1=if what.tmod 3=1 then ⟨#[10,9]⟩ else ⟨#[32]⟩:=⟨_,rfl⟩
     obtain ⟨G,hG⟩:∃ G:ByteArray,G=if what.tmod 3=2 then ⟨#[32,35,32,97,32,114,101,109,97,114,107,32,124,10]⟩ else G1:=⟨_,rfl⟩
     have HG1:=hQz hG1;have HG:=hQz hG
     have HGp:Hid (Gp G.data.toList∧G.size≤14):=by
      show _∧_;rw [hG,hG1]
      split
      · exact ⟨gp2_ok,by decide⟩
      · split
        · exact ⟨gp1_ok,by decide⟩
        · exact ⟨gp0_ok,by decide⟩
     clear hG hG1
     go_upto_if 57 with fail
     go_cut [12] from 13 (fun s12 wx=>s12= .string G1∧wx=W2)
     case first=>
      by_cases h1:what.tmod 3=1
      · have hd:(what.tmod 3==1)=true:=beq_iff_eq.2 h1;go_wp2_with fail
        go_meet
        exact ⟨by rw [HG1.out,if_pos h1],by first|rfl|trivial|assumption⟩
      · have hd:(what.tmod 3==1)=false:=by rw [bqZ];exact h1
        go_wp2_with fail
        go_meet
        exact ⟨by rw [HG1.out,if_neg h1],by first|rfl|trivial|assumption⟩
     case rest=>
      obtain ⟨rfl,hwc⟩:=hcut;obtain rfl:=hwc.symm
      go_upto_if 60 with fail
      go_cut [12] from 13 (fun s12 wx=>s12= .string G∧wx=W2)
      case first=>
       by_cases h1:what.tmod 3=2
       · have hd:(what.tmod 3==2)=true:=beq_iff_eq.2 h1;go_wp2_with fail
         go_meet
         exact ⟨by rw [HG.out,if_pos h1],by first|rfl|trivial|assumption⟩
       · have hd:(what.tmod 3==2)=false:=by rw [bqZ];exact h1
         go_wp2_with fail
         go_meet
         exact ⟨by rw [HG.out,if_neg h1],by first|rfl|trivial|assumption⟩
      case rest=>
       obtain ⟨rfl,hwc⟩:=hcut;obtain rfl:=hwc.symm;clear HG HG1;have HPt:Hid (pa≤s.data.toList.length):=by show _≤_;omega
       have hsl:s.data.toList.length=s.size:=q08 s
       have hTl:(s.extract 0 pa++G++s.extract pa s.size).data.toList=inL pa G.data.toList s.data.toList:=by
        rw [ba_appD,ba_appD,q0P s 0 pa (by omega),q0P s pa s.size (by omega)];unfold inL cut;rw [List.drop_zero,Nat.sub_zero,List.append_assoc,List.take_of_length_le (l:=s.data.toList.drop pa) (by rw [List.length_drop];omega)]
       have hTz:(s.extract 0 pa++G++s.extract pa s.size).size=s.size+G.size:=by rw [q2z,hTl,inL_len (by omega),hsl,← q2z]
       have hX0:(s.extract 0 pa).size=pa:=by rw [q2z,q0P s 0 pa (by omega),q1P (by omega)];omega
       have hX1:(s.extract pa s.size).size=s.size-pa:=by rw [q2z,q0P s pa s.size (by omega),q1P (by omega)]
       have hGs:=HGp.out.2;have HPa:Hid (∀ u,Below w.heap.size w u→Calls Tryz.prog 5 #[.string s] u fun e w'=>∃ (d:NV) (er q:Nat),e= .returned (.tuple #[d.v,.int .i64 (er:Int),.int .i64 (q:Int)])∧Below u.heap.size u w'∧PsE (psP s.data.toList s.size) u.heap.size w' d er q):=fun u hb=>parseY s (by omega) u (hE.keep hb) (hO.keep hb)
       have HPb:Hid (∀ u,Below w.heap.size w u→Calls Tryz.prog 5 #[.string (s.extract 0 pa++G++s.extract pa s.size)] u fun e w'=>∃ (d:NV) (er q:Nat),e= .returned (.tuple #[d.v,.int .i64 (er:Int),.int .i64 (q:Int)])∧Below u.heap.size u w'∧PsE (psP (inL pa G.data.toList s.data.toList) (s.size+G.size)) u.heap.size w' d er q):=fun u hb=>by
        have:=parseY (s.extract 0 pa++G++s.extract pa s.size) (by omega) u (hE.keep hb) (hO.keep hb);rw [hTl,hTz] at this;exact this
       have HIn:Hid (InR s.size pa G.size (psP s.data.toList s.size) (psP (inL pa G.data.toList s.data.toList) (s.size+G.size))):=by
        have:=ps_in HGp.out.1 HAll.out HM.out;rw [hsl,← q2z] at this;exact this
       have hpa:pa≤s.size:=by omega
       have f1:decide ((pa:Int)<0)=false:=decide_eq_false (by omega);have f3:decide ((s.size:Int)<(pa:Int))=false:=decide_eq_false (by omega);have f5:decide (s.size<pa)=false:=decide_eq_false (by omega);have g1:¬ 9223372036854775807<(s.extract 0 pa).size+G.size:=by omega
       have g2:¬ 9223372036854775807<(s.extract 0 pa++G).size+(s.extract pa s.size).size:=by rw [q2z,ba_appD,List.length_append,← q2z,← q2z];omega
       have g3:¬ 9223372036854775807<(s.extract 0 pa).size+G.size+(s.extract pa s.size).size:=by omega
       have hpb:pa≤1048576:=by omega
       clear hE hO hTl hTz HAll HM hta hsl hX0 hX1 HNN hlw hN0 hne hne2 c1;generalize psP s.data.toList s.size=R1 at *;generalize psP (inL pa G.data.toList s.data.toList) (s.size+G.size)=R2 at *;go_wp2_with fail;refine (HPa.out _ HBW.out).mono ?_;rintro e w3 ⟨d1,er1,q1,rfl,hb,H1⟩;have H1:=hQz H1;have HX3:Hid (w3.heap[BX]? =some (.cells #[.int .i64 (kd:Int),.int .i64 (pa:Int),.int .i64 (fi:Int),.string tb] 39 (0,0))):=(hb.block BX (Array.getElem?_eq_some_iff.1 HX2.out).1).trans HX2.out;have HB3:=hQz (HBW.out.trans (hb.mono HBW.out.size));clear hb HX2 HBW HPa;obtain ⟨op1,at1,vk1,tx1,nu1,vt1,io1,yo1,no1,ko1,iN1,ic1,yN1,yc1,nN1,nc1,kN1,kc1⟩:=d1;unfold NV.v NV.l;dsimp only;go_upto_region 16 with fail;obtain ⟨W4,hW4⟩:∃ W4,w3.alloc (.cells #[.int .i64 op1,.int .i64 at1,.string tx1,.int .i64 vk1,.string nu1,.string vt1,.slice io1 iN1 ic1,.slice yo1 yN1 yc1,.slice no1 nN1 nc1,.slice ko1 kN1 kc1] 28)=W4:=⟨_,rfl⟩;have hb4:Below w3.heap.size w3 W4:=by rw [← hW4];exact q0a w3 _
       have HN4:Hid (W4.heap[w3.heap.size]? =some (.cells #[.int .i64 op1,.int .i64 at1,.string tx1,.int .i64 vk1,.string nu1,.string vt1,.slice io1 iN1 ic1,.slice yo1 yN1 yc1,.slice no1 nN1 nc1,.slice ko1 kN1 kc1] 28 (0,0))):=by rw [← hW4];exact heap_alloc_new w3 _
       have HX4:Hid (W4.heap[BX]? =some (.cells #[.int .i64 (kd:Int),.int .i64 (pa:Int),.int .i64 (fi:Int),.string tb] 39 (0,0))):=(hb4.block BX (Array.getElem?_eq_some_iff.1 HX3.out).1).trans HX3.out;have HB4:=hQz (HB3.out.trans (hb4.mono HB3.out.size))
       have HT4:Hid (∀ T t o,R1= .ok T t o→∃ k,InA W4 k T (.agg #[.int .i64 op1,.int .i64 at1,.string tx1,.int .i64 vk1,.string nu1,.string vt1,.slice io1 iN1 ic1,.slice yo1 yN1 yc1,.slice no1 nN1 nc1,.slice ko1 kN1 kc1])):=fun T t o hR=>by
        have h1:=H1.out;rw [hR] at h1;obtain ⟨k,hk⟩:=h1.1.sameD;exact ⟨k,hk.low hb4⟩
       rw [hW4];obtain ⟨NB,hNB⟩:∃ NB,w3.heap.size=NB:=⟨_,rfl⟩;rw [hNB] at HN4 ⊢;clear hW4 hb4 hNB HX3 HB3;have hBX:BX<W4.heap.size:=(Array.getElem?_eq_some_iff.1 HX4.out).1;have hNX:NB<W4.heap.size:=(Array.getElem?_eq_some_iff.1 HN4.out).1;have HD4:Hid (Below W4.heap.size W4 W4.drew):=(Below.refl _ _).drew;have HSS:Hid (∀ u,Below W4.heap.size W4 u→u.cell? ⟨BX,1,none⟩=some (.int .i64 (pa:Int))):=fun u hu=>(hu.cell (p:=⟨BX,1,none⟩) hBX).trans (cell_of_row _ _ 1 _ _ _ HX4.out);have hs0:=HSS.out _ HD4.out;have KEY:∀ (B:Nat) (W8:World) (er2 q2:Nat) (op2 at2 vk2:Int) (tx2 nu2 vt2:ByteArray) (io2 yo2 no2 ko2:Option Addr) (iN2 ic2 yN2 yc2 nN2 nc2 kN2 kc2:Nat),Hid (Below W4.heap.size W4 W8∧W8.heap[B]? =some (.cells #[.int .i64 op2,.int .i64 at2,.string tx2,.int .i64 vk2,.string nu2,.string vt2,.slice io2 iN2 ic2,.slice yo2 yN2 yc2,.slice no2 nN2 nc2,.slice ko2 kN2 kc2] 28 (0,0))∧PsF R2 W8 (.agg #[.int .i64 op2,.int .i64 at2,.string tx2,.int .i64 vk2,.string nu2,.string vt2,.slice io2 iN2 ic2,.slice yo2 yN2 yc2,.slice no2 nN2 nc2,.slice ko2 kN2 kc2]) er2 q2)→(?PP:Nat→World→Nat→Nat→Int→Int→Int→ByteArray→ByteArray→ByteArray→Option Addr→Option Addr→Option Addr→Option Addr→Nat→Nat→Nat→Nat→Nat→Nat→Nat→Nat→Prop) B W8 er2 q2 op2 at2 vk2 tx2 nu2 vt2 io2 yo2 no2 ko2 iN2 ic2 yN2 yc2 nN2 nc2 kN2 kc2:= ?key;refine wp_region_held_drew (S:=fun u=>u.cell? ⟨BX,1,none⟩=some (.int .i64 (pa:Int))) (by kernel_rfl) hs0 (fun hHeld=> ?_);refine wpAnyH_take (i:=0) (oi:=_) (v:= .string s) rfl (by kernel_rfl) (by kernel_rfl) (by kernel_rfl) (fun _ _ _ h=>h) (.inl ⟨by rfl,?_⟩) (by assumption) ?_
       · intro w hSw;go_simp
       try simp only [Act.put,qsA,qsB,qsC]
       refine wpAnyH_take (i:=1) (oi:=_) (v:= .pointer (some ⟨BX,1,none⟩)) rfl (by kernel_rfl) (by kernel_rfl) (by kernel_rfl) (fun _ _ _ h=>h) (.inl ⟨by rfl,?_⟩) (by assumption) ?_
       · intro w hSw;go_simp
       try simp only [Act.put,qsA,qsB,qsC]
       refine wpAnyH_take (i:=2) (oi:=_) (v:= .int .i64 (pa:Int)) rfl (by kernel_rfl) (by kernel_rfl) (by kernel_rfl) (fun _ _ _ h=>h) (.inl ⟨by rfl,?_⟩) (by assumption) ?_
       · intro w hSw;go_simp
       try simp only [Act.put,qsA,qsB,qsC]
       refine wpAnyH_take (i:=3) (oi:=_) (v:= .string (s.extract 0 pa)) rfl (by kernel_rfl) (by kernel_rfl) (by kernel_rfl) (fun _ _ _ h=>h) (.inl ⟨by rfl,?_⟩) (by assumption) ?_
       · intro w hSw;go_simp
         try (intro hq;exfalso;omega)
         try omega
       try simp only [Act.put,qsA,qsB,qsC]
       refine wpAnyH_take (i:=4) (oi:=_) (v:= .string G) rfl (by kernel_rfl) (by kernel_rfl) (by kernel_rfl) (fun _ _ _ h=>h) (.inl ⟨by rfl,?_⟩) (by assumption) ?_
       · intro w hSw;go_simp
       try simp only [Act.put,qsA,qsB,qsC]
       refine wpAnyH_take (i:=5) (oi:=_) (v:= .string (s.extract 0 pa++G)) rfl (by kernel_rfl) (by kernel_rfl) (by kernel_rfl) (fun _ _ _ h=>h) (.inl ⟨by rfl,?_⟩) (by assumption) ?_
       · intro w hSw;go_simp
         try (intro hq;exfalso;omega)
         try omega
       try simp only [Act.put,qsA,qsB,qsC]
       refine wpAnyH_take (i:=6) (oi:=_) (v:= .string s) rfl (by kernel_rfl) (by kernel_rfl) (by kernel_rfl) (fun _ _ _ h=>h) (.inl ⟨by rfl,?_⟩) (by assumption) ?_
       · intro w hSw;go_simp
       try simp only [Act.put,qsA,qsB,qsC]
       refine wpAnyH_take (i:=7) (oi:=_) (v:= .pointer (some ⟨BX,1,none⟩)) rfl (by kernel_rfl) (by kernel_rfl) (by kernel_rfl) (fun _ _ _ h=>h) (.inl ⟨by rfl,?_⟩) (by assumption) ?_
       · intro w hSw;go_simp
       try simp only [Act.put,qsA,qsB,qsC]
       refine wpAnyH_take (i:=8) (oi:=_) (v:= .int .i64 (pa:Int)) rfl (by kernel_rfl) (by kernel_rfl) (by kernel_rfl) (fun _ _ _ h=>h) (.inl ⟨by rfl,?_⟩) (by assumption) ?_
       · intro w hSw;go_simp
       try simp only [Act.put,qsA,qsB,qsC]
       refine wpAnyH_take (i:=9) (oi:=_) (v:= .string (s.extract pa s.size)) rfl (by kernel_rfl) (by kernel_rfl) (by kernel_rfl) (fun _ _ _ h=>h) (.inl ⟨by rfl,?_⟩) (by assumption) ?_
       · intro w hSw;go_simp
         try (intro hq;exfalso;omega)
         try omega
       try simp only [Act.put,qsA,qsB,qsC]
       refine wpAnyH_take (i:=10) (oi:=_) (v:= .string (s.extract 0 pa++G++s.extract pa s.size)) rfl (by kernel_rfl) (by kernel_rfl) (by kernel_rfl) (fun _ _ _ h=>h) (.inl ⟨by rfl,?_⟩) (by assumption) ?_
       · intro w hSw;go_simp
         try (intro hq;exfalso;omega)
         try omega
       try simp only [Act.put,qsA,qsB,qsC]
       refine wpAnyH_ready (rs:=[11,16]) (by kernel_rfl) (by simp) ?_;refine AllReadyH.cons (o:=_) rfl (fun K hK=> ?_) ?_
       · skip
         go_simp;go_at_call 5;refine (HPb.out _ (HB4.out.trans (HD4.out.mono HB4.out.size))).mono ?_;rintro e w5 ⟨d2,er2,q2,rfl,hq,H2⟩;have H2:=hQz H2;have HB5:Hid (Below W4.heap.size W4 w5):=HD4.out.trans (hq.mono HD4.out.size);have HQ5:=hQz hq;clear hq;obtain ⟨op2,at2,vk2,tx2,nu2,vt2,io2,yo2,no2,ko2,iN2,ic2,yN2,yc2,nN2,nc2,kN2,kc2⟩:=d2;unfold NV.v NV.l;dsimp only;go_wp2_with fail;refine hK.out _ _ (HSS.out _ HB5.out) (fun hHeld=> ?_);clear hK K
         try simp only [Act.put,qsA,qsB,qsC]
         refine wpAnyH_take (i:=12) (oi:=_) (v:= .tuple #[.agg #[.int .i64 op2,.int .i64 at2,.string tx2,.int .i64 vk2,.string nu2,.string vt2,.slice io2 iN2 ic2,.slice yo2 yN2 yc2,.slice no2 nN2 nc2,.slice ko2 kN2 kc2],.int .i64 (er2:Int),.int .i64 (q2:Int)]) rfl (by kernel_rfl) (by kernel_rfl) (by kernel_rfl) (fun _ _ _ h=>h) (.inl ⟨by rfl,?_⟩) (by assumption) ?_
         · intro w hSw;go_simp
         try simp only [Act.put,qsA,qsB,qsC]
         refine wpAnyH_take (i:=13) (oi:=_) (v:= .agg #[.int .i64 op2,.int .i64 at2,.string tx2,.int .i64 vk2,.string nu2,.string vt2,.slice io2 iN2 ic2,.slice yo2 yN2 yc2,.slice no2 nN2 nc2,.slice ko2 kN2 kc2]) rfl (by kernel_rfl) (by kernel_rfl) (by kernel_rfl) (fun _ _ _ h=>h) (.inl ⟨by rfl,?_⟩) (by assumption) ?_
         · intro w hSw;go_simp
         try simp only [Act.put,qsA,qsB,qsC]
         refine wpAnyH_take (i:=14) (oi:=_) (v:= .int .i64 (er2:Int)) rfl (by kernel_rfl) (by kernel_rfl) (by kernel_rfl) (fun _ _ _ h=>h) (.inl ⟨by rfl,?_⟩) (by assumption) ?_
         · intro w hSw;go_simp
         try simp only [Act.put,qsA,qsB,qsC]
         refine wpAnyH_take (i:=15) (oi:=_) (v:= .int .i64 (q2:Int)) rfl (by kernel_rfl) (by kernel_rfl) (by kernel_rfl) (fun _ _ _ h=>h) (.inl ⟨by rfl,?_⟩) (by assumption) ?_
         · intro w hSw;go_simp
         try simp only [Act.put,qsA,qsB,qsC]
         refine wpAnyH_ready (rs:=[16]) (by kernel_rfl) (by simp) ?_;refine AllReadyH.cons (o:=_) rfl (fun K hK=> ?_) AllReadyH.nil;go_simp;have HB6:Hid (Below W4.heap.size W4 (w5.alloc (.cells #[.int .i64 0,.int .i64 0,.string ⟨#[]⟩,.int .i64 0,.string ⟨#[]⟩,.string ⟨#[]⟩,.slice none 0 0,.slice none 0 0,.slice none 0 0,.slice none 0 0] 28))):=HB5.out.trans ((q0a w5 _).mono HB5.out.size);refine hK.out _ _ (HSS.out _ HB6.out) (fun hHeld=> ?_);clear hK K
         try simp only [Act.put,qsA,qsB,qsC]
         refine wpAnyH_ready (rs:=[17]) (by kernel_rfl) (by simp) ?_;refine AllReadyH.cons (o:=_) rfl (fun K hK=> ?_) AllReadyH.nil;go_simp;have HB7:Hid (Below W4.heap.size W4 (w5.alloc (.cells #[.int .i64 op2,.int .i64 at2,.string tx2,.int .i64 vk2,.string nu2,.string vt2,.slice io2 iN2 ic2,.slice yo2 yN2 yc2,.slice no2 nN2 nc2,.slice ko2 kN2 kc2] 28))):=HB5.out.trans ((q0a w5 _).mono HB5.out.size);have HF:Hid (Below W4.heap.size W4 (w5.alloc (.cells #[.int .i64 op2,.int .i64 at2,.string tx2,.int .i64 vk2,.string nu2,.string vt2,.slice io2 iN2 ic2,.slice yo2 yN2 yc2,.slice no2 nN2 nc2,.slice ko2 kN2 kc2] 28))∧(w5.alloc (.cells #[.int .i64 op2,.int .i64 at2,.string tx2,.int .i64 vk2,.string nu2,.string vt2,.slice io2 iN2 ic2,.slice yo2 yN2 yc2,.slice no2 nN2 nc2,.slice ko2 kN2 kc2] 28)).heap[w5.heap.size]? =some (.cells #[.int .i64 op2,.int .i64 at2,.string tx2,.int .i64 vk2,.string nu2,.string vt2,.slice io2 iN2 ic2,.slice yo2 yN2 yc2,.slice no2 nN2 nc2,.slice ko2 kN2 kc2] 28 (0,0))∧PsF R2 (w5.alloc (.cells #[.int .i64 op2,.int .i64 at2,.string tx2,.int .i64 vk2,.string nu2,.string vt2,.slice io2 iN2 ic2,.slice yo2 yN2 yc2,.slice no2 nN2 nc2,.slice ko2 kN2 kc2] 28)) (.agg #[.int .i64 op2,.int .i64 at2,.string tx2,.int .i64 vk2,.string nu2,.string vt2,.slice io2 iN2 ic2,.slice yo2 yN2 yc2,.slice no2 nN2 nc2,.slice ko2 kN2 kc2]) er2 q2):=⟨HB7.out,heap_alloc_new w5 _,H2.out.f.low (q0a w5 _)⟩;generalize w5.alloc (.cells #[.int .i64 op2,.int .i64 at2,.string tx2,.int .i64 vk2,.string nu2,.string vt2,.slice io2 iN2 ic2,.slice yo2 yN2 yc2,.slice no2 nN2 nc2,.slice ko2 kN2 kc2] 28)=W8 at HF HB7 ⊢;generalize w5.heap.size=B at HF ⊢;refine hK.out _ _ (HSS.out _ HB7.out) (fun hHeld=> ?_);clear hK K
         try simp only [Act.put,qsA,qsB,qsC]
         refine wpAnyH_ready (rs:=[18]) (by kernel_rfl) (by simp) ?_;refine AllReadyH.cons (o:=_) rfl (fun K hK=> ?_) AllReadyH.nil;go_simp;refine hK.out _ _ (HSS.out _ HB7.out) (fun hHeld=> ?_);clear hK K
         try simp only [Act.put,qsA,qsB,qsC]
         refine wpAnyH_ready (rs:=[19]) (by kernel_rfl) (by simp) ?_;refine AllReadyH.cons (o:=_) rfl (fun K hK=> ?_) AllReadyH.nil;go_simp;refine hK.out _ _ (HSS.out _ HB7.out) (fun hHeld=> ?_);clear hK K
         try simp only [Act.put,qsA,qsB,qsC]
         refine wpAnyH_done (by kernel_rfl) ?_ _;exact KEY _ _ _ _ _ _ _ _ _ _ _ _ _ _ _ _ _ _ _ _ _ _ HF
       refine AllReadyH.cons (o:=_) rfl (fun K hK=> ?_) AllReadyH.nil;have HZ:Hid (Below W4.heap.size W4 (W4.drew.alloc (.cells #[.int .i64 0,.int .i64 0,.string ⟨#[]⟩,.int .i64 0,.string ⟨#[]⟩,.string ⟨#[]⟩,.slice none 0 0,.slice none 0 0,.slice none 0 0,.slice none 0 0] 28))):=HD4.out.trans ((q0a W4.drew _).mono HD4.out.size);go_simp;refine hK.out _ _ (HSS.out _ HZ.out) (fun hHeld=> ?_);clear hK K
       try simp only [Act.put,qsA,qsB,qsC]
       refine wpAnyH_ready (rs:=[11]) (by kernel_rfl) (by simp) ?_;refine AllReadyH.cons (o:=_) rfl (fun K hK=> ?_) AllReadyH.nil;go_simp;go_at_call 5;refine (HPb.out _ (HB4.out.trans (HZ.out.mono HB4.out.size))).mono ?_;rintro e w5 ⟨d2,er2,q2,rfl,hq,H2⟩;have H2:=hQz H2;have HB5:Hid (Below W4.heap.size W4 w5):=HZ.out.trans (hq.mono HZ.out.size);have HQ5:=hQz hq;clear hq;obtain ⟨op2,at2,vk2,tx2,nu2,vt2,io2,yo2,no2,ko2,iN2,ic2,yN2,yc2,nN2,nc2,kN2,kc2⟩:=d2;unfold NV.v NV.l;dsimp only;go_wp2_with fail;refine hK.out _ _ (HSS.out _ HB5.out) (fun hHeld=> ?_);clear hK K
       try simp only [Act.put,qsA,qsB,qsC]
       refine wpAnyH_take (i:=12) (oi:=_) (v:= .tuple #[.agg #[.int .i64 op2,.int .i64 at2,.string tx2,.int .i64 vk2,.string nu2,.string vt2,.slice io2 iN2 ic2,.slice yo2 yN2 yc2,.slice no2 nN2 nc2,.slice ko2 kN2 kc2],.int .i64 (er2:Int),.int .i64 (q2:Int)]) rfl (by kernel_rfl) (by kernel_rfl) (by kernel_rfl) (fun _ _ _ h=>h) (.inl ⟨by rfl,?_⟩) (by assumption) ?_
       · intro w hSw;go_simp
       try simp only [Act.put,qsA,qsB,qsC]
       refine wpAnyH_take (i:=13) (oi:=_) (v:= .agg #[.int .i64 op2,.int .i64 at2,.string tx2,.int .i64 vk2,.string nu2,.string vt2,.slice io2 iN2 ic2,.slice yo2 yN2 yc2,.slice no2 nN2 nc2,.slice ko2 kN2 kc2]) rfl (by kernel_rfl) (by kernel_rfl) (by kernel_rfl) (fun _ _ _ h=>h) (.inl ⟨by rfl,?_⟩) (by assumption) ?_
       · intro w hSw;go_simp
       try simp only [Act.put,qsA,qsB,qsC]
       refine wpAnyH_take (i:=14) (oi:=_) (v:= .int .i64 (er2:Int)) rfl (by kernel_rfl) (by kernel_rfl) (by kernel_rfl) (fun _ _ _ h=>h) (.inl ⟨by rfl,?_⟩) (by assumption) ?_
       · intro w hSw;go_simp
       try simp only [Act.put,qsA,qsB,qsC]
       refine wpAnyH_take (i:=15) (oi:=_) (v:= .int .i64 (q2:Int)) rfl (by kernel_rfl) (by kernel_rfl) (by kernel_rfl) (fun _ _ _ h=>h) (.inl ⟨by rfl,?_⟩) (by assumption) ?_
       · intro w hSw;go_simp
       try simp only [Act.put,qsA,qsB,qsC]
       have HA5:Hid (w5.heap[W4.heap.size]? =some (.cells #[.int .i64 0,.int .i64 0,.string ⟨#[]⟩,.int .i64 0,.string ⟨#[]⟩,.string ⟨#[]⟩,.slice none 0 0,.slice none 0 0,.slice none 0 0,.slice none 0 0] 28 (0,0))):=by
        have h1:=HQ5.out.block W4.heap.size (by show W4.heap.size<(W4.drew.alloc _).heap.size;rw [World.size_alloc];exact Nat.lt_succ_self _);exact h1.trans (World.alloc_heap_new W4.drew _)
       obtain ⟨y0,y1,y2,y3,y4,y5,y6,y7,y8,y9⟩:=q00 HA5.out;obtain ⟨z0,z1,z2,z3,z4,z5,z6,z7,z8,z9⟩:=q04 HA5.out;refine wpAnyH_ready (rs:=[17]) (by kernel_rfl) (by simp) ?_;refine AllReadyH.cons (o:=_) rfl (fun K hK=> ?_) AllReadyH.nil;go_simp;generalize hz9:((((((((((w5).setCell ⟨W4.heap.size,0,none⟩ (.int .i64 op2)).setCell ⟨W4.heap.size,1,none⟩ (.int .i64 at2)).setCell ⟨W4.heap.size,2,none⟩ (.string tx2)).setCell ⟨W4.heap.size,3,none⟩ (.int .i64 vk2)).setCell ⟨W4.heap.size,4,none⟩ (.string nu2)).setCell ⟨W4.heap.size,5,none⟩ (.string vt2)).setCell ⟨W4.heap.size,6,none⟩ (.slice io2 iN2 ic2)).setCell ⟨W4.heap.size,7,none⟩ (.slice yo2 yN2 yc2)).setCell ⟨W4.heap.size,8,none⟩ (.slice no2 nN2 nc2)).setCell ⟨W4.heap.size,9,none⟩ (.slice ko2 kN2 kc2)=W8;have hP:=q0Q HA5.out hz9;have HF:Hid (Below W4.heap.size W4 W8∧W8.heap[W4.heap.size]? =some (.cells #[.int .i64 op2,.int .i64 at2,.string tx2,.int .i64 vk2,.string nu2,.string vt2,.slice io2 iN2 ic2,.slice yo2 yN2 yc2,.slice no2 nN2 nc2,.slice ko2 kN2 kc2] 28 (0,0))∧PsF R2 W8 (.agg #[.int .i64 op2,.int .i64 at2,.string tx2,.int .i64 vk2,.string nu2,.string vt2,.slice io2 iN2 ic2,.slice yo2 yN2 yc2,.slice no2 nN2 nc2,.slice ko2 kN2 kc2]) er2 q2):=⟨HB5.out.trans (hP.below (Nat.le_refl _)),hP.new,H2.out.f2 (fun b hb _=>hP.rest b (by have h9:W4.heap.size+1≤b:=(by simpa using hb);omega)) (by rw [hP.size];exact Nat.le_refl _)⟩;have HB7:Hid (Below W4.heap.size W4 W8):=HF.out.1;clear hz9 hP y0 y1 y2 y3 y4 y5 y6 y7 y8 y9 z0 z1 z2 z3 z4 z5 z6 z7 z8 z9;have HC:=hQz HF.out.2;clear HF;generalize W4.heap.size=B at HC ⊢;have HF:=hQz (And.intro HB7.out HC.out);refine hK.out _ _ (HSS.out _ HB7.out) (fun hHeld=> ?_);clear hK K
       try simp only [Act.put,qsA,qsB,qsC]
       refine wpAnyH_ready (rs:=[18]) (by kernel_rfl) (by simp) ?_;refine AllReadyH.cons (o:=_) rfl (fun K hK=> ?_) AllReadyH.nil;go_simp;refine hK.out _ _ (HSS.out _ HB7.out) (fun hHeld=> ?_);clear hK K
       try simp only [Act.put,qsA,qsB,qsC]
       refine wpAnyH_ready (rs:=[19]) (by kernel_rfl) (by simp) ?_;refine AllReadyH.cons (o:=_) rfl (fun K hK=> ?_) AllReadyH.nil;go_simp;refine hK.out _ _ (HSS.out _ HB7.out) (fun hHeld=> ?_);clear hK K
       try simp only [Act.put,qsA,qsB,qsC]
       refine wpAnyH_done (by kernel_rfl) ?_ _;exact KEY _ _ _ _ _ _ _ _ _ _ _ _ _ _ _ _ _ _ _ _ _ _ HF
       next=>
        intro B W8 er2 q2 op2 at2 vk2 tx2 nu2 vt2 io2 yo2 no2 ko2 iN2 ic2 yN2 yc2 nN2 nc2 kN2 kc2 HF;have HB8:Hid (Below w.heap.size w W8):=HB4.out.trans (HF.out.1.mono HB4.out.size);have hcx:=HSS.out _ HF.out.1
        cases R1 with
        | bad e z=>
         obtain ⟨hne,hzb,hR2⟩:=HIn.out;obtain ⟨_,h1,h2⟩:=H1.out;have hps:=HF.out.2.2;rw [hR2] at hps;obtain ⟨h3,h4⟩:=hps;subst h1 h2 h3;have e0:((er2:Int)==0)=false:=by rw [bqZ];omega
         clear HF HSS HD4 hs0 HT4 H1 HIn HN4 HX4 hR2 hne HPb HB4 hBX hNX f1 f3 f5 g1 g2 g3;by_cases hz:pa≤q1
         · have h5:q2=q1+G.size:=by rw [h4];unfold mvQ;rw [if_pos hz]
           have hz1:(pa:Int)≤(q1:Int):=by omega
           have hq:((q2:Int)==(q1:Int)+(G.size:Int))=true:=by rw [beq_iff_eq];omega
           clear h4 h5;go_wp2_with fail;refine (HWk.out _ HB8.out).mono ?_;rintro e w6 ⟨rfl,hb⟩;have HB6:=hQz (HB8.out.trans (hb.mono HB8.out.size));clear hb;go_wp2_with fail;go_ret;exact ⟨rfl,HB6.out⟩
         · have h5:q2=q1:=by rw [h4];unfold mvQ;rw [if_neg hz]
           have hz1:¬ (pa:Int)≤(q1:Int):=by omega
           have hq:((q2:Int)==(q1:Int))=true:=by rw [beq_iff_eq];omega
           clear h4 h5;go_wp2_with fail;refine (HWk.out _ HB8.out).mono ?_;rintro e w6 ⟨rfl,hb⟩;have HB6:=hQz (HB8.out.trans (hb.mono HB8.out.size));clear hb;go_wp2_with fail;go_ret;exact ⟨rfl,HB6.out⟩
        | ok T t o=>
         obtain ⟨T',t',o',hR2,hN⟩:=HIn.out;obtain ⟨_,h1,h2⟩:=H1.out;obtain ⟨hb8,hbx,hps⟩:=HF.out;rw [hR2] at hps;obtain ⟨⟨kb,hkb⟩,h3,h4⟩:=hps;obtain ⟨ka,hka⟩:=HT4.out T t o rfl;subst h1 h2 h3 h4
         have HSm:Hid (Calls Tryz.prog 9 #[.agg #[.int .i64 op1,.int .i64 at1,.string tx1,.int .i64 vk1,.string nu1,.string vt1,.slice io1 iN1 ic1,.slice yo1 yN1 yc1,.slice no1 nN1 nc1,.slice ko1 kN1 kc1],.agg #[.int .i64 op2,.int .i64 at2,.string tx2,.int .i64 vk2,.string nu2,.string vt2,.slice io2 iN2 ic2,.slice yo2 yN2 yc2,.slice no2 nN2 nc2,.slice ko2 kN2 kc2]] W8 fun e w'=>e= .returned (.bool true)∧Below W8.heap.size W8 w'):=by
          have:=w_rSameN (max ka kb) T T' _ _ W8 ((hka.low hb8).le (Nat.le_max_left ka kb)) (hkb.le (Nat.le_max_right ka kb));rw [show sq (noA T) (noA T')=true by rw [hN];exact sq_yes _] at this;exact this
         obtain ⟨y0,y1,y2,y3,y4,y5,y6,y7,y8,y9⟩:=q00 ((hb8.block NB hNX).trans HN4.out);obtain ⟨x0,x1,x2,x3,x4,x5,x6,x7,x8,x9⟩:=q00 hbx;clear HF HSS HD4 hs0 HT4 H1 HIn HN4 HX4 hR2 HPb HB4 hBX hNX f1 f3 f5 g1 g2 g3 hkb hka hb8 hbx hN hcx;go_wp2_with fail;refine HSm.out.mono ?_;rintro e w5 ⟨rfl,hb⟩;have HB5:=hQz (HB8.out.trans (hb.mono HB8.out.size));clear hb x0 x1 x2 x3 x4 x5 x6 x7 x8 x9 y0 y1 y2 y3 y4 y5 y6 y7 y8 y9;go_wp2_with fail;refine (HWk.out _ HB5.out).mono ?_;rintro e w6 ⟨rfl,hb⟩;have HB6:=hQz (HB5.out.trans (hb.mono HB5.out.size));clear hb;go_wp2_with fail;go_ret;exact ⟨rfl,HB6.out⟩
end Go.Proofs.YtbpopnafcpfifaaGreatDoor
