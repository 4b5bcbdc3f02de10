import Derived.Test.YtnokkmiaeacogaaGreatM40
import Derived.Lib.QuietBelow
import Derived.BigQuiet
set_option linter.unusedVariables false
set_option linter.unusedSimpArgs false
namespace Go.Proofs.YtnokkmiaeacogaaGreat
open Go.RowKit Go.Shelf Go.Sort
attribute [local go_sem] Oper.semAt_some
set_option maxRecDepth 100000
set_option maxHeartbeats 12800000
theorem w_keptAr (B n:Nat) (v:Value) (D:Nat→Prop) (xs:List Value) (w:World) (hown:w.ownsRow (B+1) 24 1 v n xs) (hm:∀ x∈xs,MkRt D w 7 x) (hn:n≤4398046511104):
 Calls Tryz.prog 32 #[v] w fun e w'=>e= .returned (.bool true)∧Below w.heap.size w w':=by
 rcases hown.2 with ⟨rfl,rfl⟩|⟨g,cap,cur,rfl,e1,e2,e3,e4,e5,e6⟩
 · exact (w_keptArrs0 w).mono fun e w' ⟨h1,h2⟩=>⟨h1,by rw [h2];exact Below.refl _ _⟩
 · have hlen:xs.length=n:=by have:=hown.1;omega
   have hgl:g<w.heap.size:=(Array.getElem?_eq_some_iff.1 e2).1
   have hcell:∀ k,(hk:k<xs.length)→w.cell? ⟨g,k,none⟩=some xs[k]:=fun k hk=>by
    have h1:w.cell? ⟨g,k,none⟩=cur[k]? :=cell_of_row _ _ _ _ _ _ e2;have h2:xs[k]? =some xs[k]:=List.getElem?_eq_getElem hk;rw [h1];rw [← h2]
    conv=>rhs;rw [← e6]
    rw [List.getElem?_take,if_pos (by omega),Array.getElem?_toList]
   have HCL:=hQz hcell;have HM:=hQz hm;have HLN:=hQz hlen;clear hown e1 e2 e4 e5 e6 hcell hm hlen;go_enter Tryz.func32,Tryz.ntmps32;go_wp2_with fail
   go_loopw [3] (fun i wr=>∃ k:Nat,k≤n∧i= .int .i64 (k:Int)∧Hid (Below w.heap.size w wr)) (fun i _=>n-(intOf i).toNat)
   case atStart=>exact ⟨0,Nat.zero_le _,rfl,Below.refl _ _⟩
   case round=>
    obtain ⟨k,hk,rfl,HB⟩:=hrel;by_cases hlt:k<n
    · have hl1:(k:Int)<(n:Int):=by omega
      have hl0:(0:Int)≤(k:Int):=by omega
      have hkl:k<xs.length:=by rw [HLN.out];exact hlt
      have c0:=(HB.out.cell (p:=⟨g,k,none⟩) hgl).trans (HCL.out k hkl);obtain ⟨q,P,cp,hx,f2,f3,hql,hmk⟩:=(HM.out _ (List.getElem_mem hkl)).at;rw [hx] at c0;have HMK:=hQz hmk;clear hx hmk hkl;go_wp2_with fail
      go_loopw [5] (fun i wr=>∃ m:Nat,m≤16∧i= .int .i64 (m:Int)∧Hid (Below w.heap.size w wr)) (fun i _=>16-(intOf i).toNat)
      case atStart=>exact ⟨0,Nat.zero_le _,rfl,HB⟩
      case round=>
       clear HB c0;obtain ⟨m,hm,rfl,HB⟩:=hrel;by_cases hlt2:m<16
       · have hm1:(m:Int)<16:=by omega
         have hm0:(0:Int)≤(m:Int):=by omega
         have i1:(0:Int)≤(P:Int)+(m:Int):=by omega
         have i2:(P:Int)+(m:Int)<(P:Int)+16:=by omega
         have i3:(P:Int)≤1099511627776:=by omega
         have i4:((P:Int)+(m:Int)).toNat=P+m:=by omega
         obtain ⟨cs,hcs,hce⟩:=HMK.out m hlt2;have HC:=hQz (fun u=>w_lmarkAr m u (by omega));have e0:cs=[.bool false,.bool false,.bool false,.bool false,.slice none 0 0,.bool false,.slice none 0 0,.slice none 0 0,.slice none 0 0,.int .i64 (-1),.int .i64 (m:Int)]:=hcs;have k0:w.cell? ⟨q,(P+m)*11,none⟩=some (.bool false):=hce 0 _ (by rw [e0];rfl);have k1:w.cell? ⟨q,(P+m)*11+1,none⟩=some (.bool false):=hce 1 _ (by rw [e0];rfl);have k2:w.cell? ⟨q,(P+m)*11+2,none⟩=some (.bool false):=hce 2 _ (by rw [e0];rfl);have k3:w.cell? ⟨q,(P+m)*11+3,none⟩=some (.bool false):=hce 3 _ (by rw [e0];rfl);have k4:w.cell? ⟨q,(P+m)*11+4,none⟩=some (.slice none 0 0):=hce 4 _ (by rw [e0];rfl);have k5:w.cell? ⟨q,(P+m)*11+5,none⟩=some (.bool false):=hce 5 _ (by rw [e0];rfl);have k6:w.cell? ⟨q,(P+m)*11+6,none⟩=some (.slice none 0 0):=hce 6 _ (by rw [e0];rfl);have k7:w.cell? ⟨q,(P+m)*11+7,none⟩=some (.slice none 0 0):=hce 7 _ (by rw [e0];rfl);have k8:w.cell? ⟨q,(P+m)*11+8,none⟩=some (.slice none 0 0):=hce 8 _ (by rw [e0];rfl);have k9:w.cell? ⟨q,(P+m)*11+9,none⟩=some (.int .i64 (-1)):=hce 9 _ (by rw [e0];rfl);have k10:w.cell? ⟨q,(P+m)*11+10,none⟩=some (.int .i64 (m:Int)):=hce 10 _ (by rw [e0];rfl);clear e0 hcs hce;have HK:=hQz (And.intro k0 (And.intro k1 (And.intro k2 (And.intro k3 (And.intro k4 (And.intro k5 (And.intro k6 (And.intro k7 (And.intro k8 (And.intro k9 (k10)))))))))));clear k0 k1 k2 k3 k4 k5 k6 k7 k8 k9 k10;go_wp2_with fail;refine (HC.out _).mono ?_;rintro e w4 ⟨rfl,hb4⟩;have hB4:Below w.heap.size w w4:=HB.out.trans (hb4.mono HB.out.size);obtain ⟨W5,hW5⟩:∃ W5,w4.alloc (.cells #[.bool false,.bool false,.bool false,.bool false,.slice none 0 0,.bool false,.slice none 0 0,.slice none 0 0,.slice none 0 0,.int .i64 (-1),.int .i64 (m:Int)] 89)=W5:=⟨_,rfl⟩;have hb5:Below w4.heap.size w4 W5:=by rw [← hW5];exact q05 w4 _
         have hbx:W5.heap[w4.heap.size]? =some (.cells #[.bool false,.bool false,.bool false,.bool false,.slice none 0 0,.bool false,.slice none 0 0,.slice none 0 0,.slice none 0 0,.int .i64 (-1),.int .i64 (m:Int)] 89 (0,0)):=by rw [← hW5];exact heap_alloc_new w4 _
         have hB5:Below w.heap.size w W5:=hB4.trans (hb5.mono hB4.size);have HB5:=hQz hB5;have HSM:=hQz (fun (d:Nat) (os:Array Obj)=>w_mkArr (m:Int) (grow (redrawn W5 d) os));obtain ⟨k0,k1,k2,k3,k4,k5,k6,k7,k8,k9,k10⟩:=HK.out;obtain ⟨z0,z1,z2,z3,z4,z5,z6,z7,z8,z9,z10,_⟩:=q0D hbx;have R0:=fun d os=>cell_regrown ((hB5.cell (p:=⟨q,(P+m)*11,none⟩) hql).trans k0) d os;have R1:=fun d os=>cell_regrown ((hB5.cell (p:=⟨q,(P+m)*11+1,none⟩) hql).trans k1) d os;have R2:=fun d os=>cell_regrown ((hB5.cell (p:=⟨q,(P+m)*11+2,none⟩) hql).trans k2) d os;have R3:=fun d os=>cell_regrown ((hB5.cell (p:=⟨q,(P+m)*11+3,none⟩) hql).trans k3) d os;have R4:=fun d os=>cell_regrown ((hB5.cell (p:=⟨q,(P+m)*11+4,none⟩) hql).trans k4) d os;have R5:=fun d os=>cell_regrown ((hB5.cell (p:=⟨q,(P+m)*11+5,none⟩) hql).trans k5) d os;have R6:=fun d os=>cell_regrown ((hB5.cell (p:=⟨q,(P+m)*11+6,none⟩) hql).trans k6) d os;have R7:=fun d os=>cell_regrown ((hB5.cell (p:=⟨q,(P+m)*11+7,none⟩) hql).trans k7) d os;have R8:=fun d os=>cell_regrown ((hB5.cell (p:=⟨q,(P+m)*11+8,none⟩) hql).trans k8) d os;have R9:=fun d os=>cell_regrown ((hB5.cell (p:=⟨q,(P+m)*11+9,none⟩) hql).trans k9) d os;have R10:=fun d os=>cell_regrown ((hB5.cell (p:=⟨q,(P+m)*11+10,none⟩) hql).trans k10) d os;have S0:=fun d os=>cell_regrown z0 d os;have S1:=fun d os=>cell_regrown z1 d os;have S2:=fun d os=>cell_regrown z2 d os;have S3:=fun d os=>cell_regrown z3 d os;have S4:=fun d os=>cell_regrown z4 d os;have S5:=fun d os=>cell_regrown z5 d os;have S6:=fun d os=>cell_regrown z6 d os;have S7:=fun d os=>cell_regrown z7 d os;have S8:=fun d os=>cell_regrown z8 d os;have S9:=fun d os=>cell_regrown z9 d os;have S10:=fun d os=>cell_regrown z10 d os;have HW5:=hQz hW5;clear hb4 HC HK hb5 hbx hB4 hB5 k0 k1 k2 k3 k4 k5 k6 k7 k8 k9 k10 z0 z1 z2 z3 z4 z5 z6 z7 z8 z9 z10 hW5;go_wp2_with fail;rw [HW5.out];refine wp_region_quiet_below (by kernel_rfl) (by kernel_rfl) ?_
         repeat (go_big_quiet_step (exact Calls.regrown_of (HSM.out _ _)))
         refine wpQuiet_nil ?_;intro wz hw'
         have HBz:Hid (Below w.heap.size w wz):=by
          obtain ⟨⟨dq,osq⟩,rfl⟩:=hw';exact HB5.out.trans ((below_regrown W5 dq osq).mono HB5.out.size)
         clear hw';go_wp2_with fail;go_roundw
         case rel=>exact ⟨m+1,by omega,by go_num,HBz⟩
         case measure=>simp [intOf];omega
       · have hm1:¬ (m:Int)<16:=by omega
         go_wp2_with fail;go_roundw
         case rel=>exact ⟨k+1,by omega,by go_num,HB⟩
         case measure=>simp [intOf];omega
    · have hl1:¬ (k:Int)<(n:Int):=by omega
      go_wp2_with fail;go_ret;exact ⟨rfl,HB.out⟩
theorem w_keptOb (B n:Nat) (v:Value) (D:Nat→Prop) (xs:List Value) (w:World) (hown:w.ownsRow (B+1) 25 1 v n xs) (hm:∀ x∈xs,MkRt D w 8 x) (hn:n≤4398046511104):
 Calls Tryz.prog 33 #[v] w fun e w'=>e= .returned (.bool true)∧Below w.heap.size w w':=by
 rcases hown.2 with ⟨rfl,rfl⟩|⟨g,cap,cur,rfl,e1,e2,e3,e4,e5,e6⟩
 · exact (w_keptObjs0 w).mono fun e w' ⟨h1,h2⟩=>⟨h1,by rw [h2];exact Below.refl _ _⟩
 · have hlen:xs.length=n:=by have:=hown.1;omega
   have hgl:g<w.heap.size:=(Array.getElem?_eq_some_iff.1 e2).1
   have hcell:∀ k,(hk:k<xs.length)→w.cell? ⟨g,k,none⟩=some xs[k]:=fun k hk=>by
    have h1:w.cell? ⟨g,k,none⟩=cur[k]? :=cell_of_row _ _ _ _ _ _ e2;have h2:xs[k]? =some xs[k]:=List.getElem?_eq_getElem hk;rw [h1];rw [← h2]
    conv=>rhs;rw [← e6]
    rw [List.getElem?_take,if_pos (by omega),Array.getElem?_toList]
   have HCL:=hQz hcell;have HM:=hQz hm;have HLN:=hQz hlen;clear hown e1 e2 e4 e5 e6 hcell hm hlen;go_enter Tryz.func33,Tryz.ntmps33;go_wp2_with fail
   go_loopw [3] (fun i wr=>∃ k:Nat,k≤n∧i= .int .i64 (k:Int)∧Hid (Below w.heap.size w wr)) (fun i _=>n-(intOf i).toNat)
   case atStart=>exact ⟨0,Nat.zero_le _,rfl,Below.refl _ _⟩
   case round=>
    obtain ⟨k,hk,rfl,HB⟩:=hrel;by_cases hlt:k<n
    · have hl1:(k:Int)<(n:Int):=by omega
      have hl0:(0:Int)≤(k:Int):=by omega
      have hkl:k<xs.length:=by rw [HLN.out];exact hlt
      have c0:=(HB.out.cell (p:=⟨g,k,none⟩) hgl).trans (HCL.out k hkl);obtain ⟨q,P,cp,hx,f2,f3,hql,hmk⟩:=(HM.out _ (List.getElem_mem hkl)).at;rw [hx] at c0;have HMK:=hQz hmk;clear hx hmk hkl;go_wp2_with fail
      go_loopw [5] (fun i wr=>∃ m:Nat,m≤16∧i= .int .i64 (m:Int)∧Hid (Below w.heap.size w wr)) (fun i _=>16-(intOf i).toNat)
      case atStart=>exact ⟨0,Nat.zero_le _,rfl,HB⟩
      case round=>
       clear HB c0;obtain ⟨m,hm,rfl,HB⟩:=hrel;by_cases hlt2:m<16
       · have hm1:(m:Int)<16:=by omega
         have hm0:(0:Int)≤(m:Int):=by omega
         have i1:(0:Int)≤(P:Int)+(m:Int):=by omega
         have i2:(P:Int)+(m:Int)<(P:Int)+16:=by omega
         have i3:(P:Int)≤1099511627776:=by omega
         have i4:((P:Int)+(m:Int)).toNat=P+m:=by omega
         obtain ⟨cs,hcs,hce⟩:=HMK.out m hlt2;have hks:(wbL m).size≤140737488355328:=by show 8≤140737488355328;decide
         have HC:=hQz (fun u=>w_lmarkOb m u (by omega));obtain ⟨Q1,e0,_,hq1,hqc⟩:∃ Q1,cs=[.slice (some ⟨Q1,0,none⟩) 1 1,.slice none 0 0,.slice none 0 0,.bool false,.bool false,.bool false,.bool false,.slice none 0 0,.bool false,.slice none 0 0,.slice none 0 0,.slice none 0 0]∧D Q1∧Q1<w.heap.size∧w.cell? ⟨Q1,0,none⟩=some (.string (wbL m)):=hcs;have k0:w.cell? ⟨q,(P+m)*12,none⟩=some (.slice (some ⟨Q1,0,none⟩) 1 1):=hce 0 _ (by rw [e0];rfl);have k1:w.cell? ⟨q,(P+m)*12+1,none⟩=some (.slice none 0 0):=hce 1 _ (by rw [e0];rfl);have k2:w.cell? ⟨q,(P+m)*12+2,none⟩=some (.slice none 0 0):=hce 2 _ (by rw [e0];rfl);have k3:w.cell? ⟨q,(P+m)*12+3,none⟩=some (.bool false):=hce 3 _ (by rw [e0];rfl);have k4:w.cell? ⟨q,(P+m)*12+4,none⟩=some (.bool false):=hce 4 _ (by rw [e0];rfl);have k5:w.cell? ⟨q,(P+m)*12+5,none⟩=some (.bool false):=hce 5 _ (by rw [e0];rfl);have k6:w.cell? ⟨q,(P+m)*12+6,none⟩=some (.bool false):=hce 6 _ (by rw [e0];rfl);have k7:w.cell? ⟨q,(P+m)*12+7,none⟩=some (.slice none 0 0):=hce 7 _ (by rw [e0];rfl);have k8:w.cell? ⟨q,(P+m)*12+8,none⟩=some (.bool false):=hce 8 _ (by rw [e0];rfl);have k9:w.cell? ⟨q,(P+m)*12+9,none⟩=some (.slice none 0 0):=hce 9 _ (by rw [e0];rfl);have k10:w.cell? ⟨q,(P+m)*12+10,none⟩=some (.slice none 0 0):=hce 10 _ (by rw [e0];rfl);have k11:w.cell? ⟨q,(P+m)*12+11,none⟩=some (.slice none 0 0):=hce 11 _ (by rw [e0];rfl);clear e0 hce;generalize wbL m=key at HC hks hqc;have HK:=hQz (And.intro k0 (And.intro k1 (And.intro k2 (And.intro k3 (And.intro k4 (And.intro k5 (And.intro k6 (And.intro k7 (And.intro k8 (And.intro k9 (And.intro k10 (k11))))))))))));have HQC:=hQz (And.intro hq1 hqc);clear hq1 hqc;clear k0 k1 k2 k3 k4 k5 k6 k7 k8 k9 k10 k11;go_wp2_with fail;refine (HC.out _).mono ?_;rintro e w4 ⟨Q2,rfl,hq2,hq3,hq4,hb4⟩;have hB4:Below w.heap.size w w4:=HB.out.trans (hb4.mono HB.out.size);obtain ⟨W5,hW5⟩:∃ W5,w4.alloc (.cells #[.slice (some ⟨Q2,0,none⟩) 1 1,.slice none 0 0,.slice none 0 0,.bool false,.bool false,.bool false,.bool false,.slice none 0 0,.bool false,.slice none 0 0,.slice none 0 0,.slice none 0 0] 95)=W5:=⟨_,rfl⟩;have hb5:Below w4.heap.size w4 W5:=by rw [← hW5];exact q05 w4 _
         have hbx:W5.heap[w4.heap.size]? =some (.cells #[.slice (some ⟨Q2,0,none⟩) 1 1,.slice none 0 0,.slice none 0 0,.bool false,.bool false,.bool false,.bool false,.slice none 0 0,.bool false,.slice none 0 0,.slice none 0 0,.slice none 0 0] 95 (0,0)):=by rw [← hW5];exact heap_alloc_new w4 _
         have hB5:Below w.heap.size w W5:=hB4.trans (hb5.mono hB4.size);have HB5:=hQz hB5;have hwq:=(hB5.cell (p:=⟨Q1,0,none⟩) HQC.out.1).trans HQC.out.2;have hwq2:=(hb5.cell (p:=⟨Q2,0,none⟩) hq3).trans hq4;have hs1:Q1<W5.heap.size:=Nat.lt_of_lt_of_le HQC.out.1 hB5.size;have hs2:Q2<W5.heap.size:=Nat.lt_of_lt_of_le hq3 hb5.size;have HSM:=hQz (fun (d:Nat) (os:Array Obj)=>w_mkObj key hks Q1 Q2 (grow (redrawn W5 d) os) (Nat.lt_of_lt_of_le hs1 (below_regrown W5 d os).size) (cell_regrown hwq d os) (Nat.lt_of_lt_of_le hs2 (below_regrown W5 d os).size) (cell_regrown hwq2 d os));clear hwq hwq2 hs1 hs2 hq2 hq3 hq4 HQC;obtain ⟨k0,k1,k2,k3,k4,k5,k6,k7,k8,k9,k10,k11⟩:=HK.out;obtain ⟨z0,z1,z2,z3,z4,z5,z6,z7,z8,z9,z10,z11,_⟩:=q0e hbx;have R0:=fun d os=>cell_regrown ((hB5.cell (p:=⟨q,(P+m)*12,none⟩) hql).trans k0) d os;have R1:=fun d os=>cell_regrown ((hB5.cell (p:=⟨q,(P+m)*12+1,none⟩) hql).trans k1) d os;have R2:=fun d os=>cell_regrown ((hB5.cell (p:=⟨q,(P+m)*12+2,none⟩) hql).trans k2) d os;have R3:=fun d os=>cell_regrown ((hB5.cell (p:=⟨q,(P+m)*12+3,none⟩) hql).trans k3) d os;have R4:=fun d os=>cell_regrown ((hB5.cell (p:=⟨q,(P+m)*12+4,none⟩) hql).trans k4) d os;have R5:=fun d os=>cell_regrown ((hB5.cell (p:=⟨q,(P+m)*12+5,none⟩) hql).trans k5) d os;have R6:=fun d os=>cell_regrown ((hB5.cell (p:=⟨q,(P+m)*12+6,none⟩) hql).trans k6) d os;have R7:=fun d os=>cell_regrown ((hB5.cell (p:=⟨q,(P+m)*12+7,none⟩) hql).trans k7) d os;have R8:=fun d os=>cell_regrown ((hB5.cell (p:=⟨q,(P+m)*12+8,none⟩) hql).trans k8) d os;have R9:=fun d os=>cell_regrown ((hB5.cell (p:=⟨q,(P+m)*12+9,none⟩) hql).trans k9) d os;have R10:=fun d os=>cell_regrown ((hB5.cell (p:=⟨q,(P+m)*12+10,none⟩) hql).trans k10) d os;have R11:=fun d os=>cell_regrown ((hB5.cell (p:=⟨q,(P+m)*12+11,none⟩) hql).trans k11) d os;have S0:=fun d os=>cell_regrown z0 d os;have S1:=fun d os=>cell_regrown z1 d os;have S2:=fun d os=>cell_regrown z2 d os;have S3:=fun d os=>cell_regrown z3 d os;have S4:=fun d os=>cell_regrown z4 d os;have S5:=fun d os=>cell_regrown z5 d os;have S6:=fun d os=>cell_regrown z6 d os;have S7:=fun d os=>cell_regrown z7 d os;have S8:=fun d os=>cell_regrown z8 d os;have S9:=fun d os=>cell_regrown z9 d os;have S10:=fun d os=>cell_regrown z10 d os
         have S11:=fun d os=>cell_regrown z11 d os;have HW5:=hQz hW5;clear hb4 HC HK hb5 hbx hB4 hB5 k0 k1 k2 k3 k4 k5 k6 k7 k8 k9 k10 k11 z0 z1 z2 z3 z4 z5 z6 z7 z8 z9 z10 z11 hW5;go_wp2_with fail;rw [HW5.out];refine wp_region_quiet_below (by kernel_rfl) (by kernel_rfl) ?_
         repeat (go_big_quiet_step (exact Calls.regrown_of (HSM.out _ _)))
         refine wpQuiet_nil ?_;intro wz hw'
         have HBz:Hid (Below w.heap.size w wz):=by
          obtain ⟨⟨dq,osq⟩,rfl⟩:=hw';exact HB5.out.trans ((below_regrown W5 dq osq).mono HB5.out.size)
         clear hw';go_wp2_with fail;go_roundw
         case rel=>exact ⟨m+1,by omega,by go_num,HBz⟩
         case measure=>simp [intOf];omega
       · have hm1:¬ (m:Int)<16:=by omega
         go_wp2_with fail;go_roundw
         case rel=>exact ⟨k+1,by omega,by go_num,HB⟩
         case measure=>simp [intOf];omega
    · have hl1:¬ (k:Int)<(n:Int):=by omega
      go_wp2_with fail;go_ret;exact ⟨rfl,HB.out⟩
theorem w_keptTy (B n:Nat) (v:Value) (D:Nat→Prop) (xs:List Value) (w:World) (hown:w.ownsRow (B+1) 92 1 v n xs) (hm:∀ x∈xs,MkRt D w 9 x) (hn:n≤4398046511104):
 Calls Tryz.prog 34 #[v] w fun e w'=>e= .returned (.bool true)∧Below w.heap.size w w':=by
 rcases hown.2 with ⟨rfl,rfl⟩|⟨g,cap,cur,rfl,e1,e2,e3,e4,e5,e6⟩
 · exact (w_keptTypes0 w).mono fun e w' ⟨h1,h2⟩=>⟨h1,by rw [h2];exact Below.refl _ _⟩
 · have hlen:xs.length=n:=by have:=hown.1;omega
   have hgl:g<w.heap.size:=(Array.getElem?_eq_some_iff.1 e2).1
   have hcell:∀ k,(hk:k<xs.length)→w.cell? ⟨g,k,none⟩=some xs[k]:=fun k hk=>by
    have h1:w.cell? ⟨g,k,none⟩=cur[k]? :=cell_of_row _ _ _ _ _ _ e2;have h2:xs[k]? =some xs[k]:=List.getElem?_eq_getElem hk;rw [h1];rw [← h2]
    conv=>rhs;rw [← e6]
    rw [List.getElem?_take,if_pos (by omega),Array.getElem?_toList]
   have HCL:=hQz hcell;have HM:=hQz hm;have HLN:=hQz hlen;clear hown e1 e2 e4 e5 e6 hcell hm hlen;go_enter Tryz.func34,Tryz.ntmps34;go_wp2_with fail
   go_loopw [3] (fun i wr=>∃ k:Nat,k≤n∧i= .int .i64 (k:Int)∧Hid (Below w.heap.size w wr)) (fun i _=>n-(intOf i).toNat)
   case atStart=>exact ⟨0,Nat.zero_le _,rfl,Below.refl _ _⟩
   case round=>
    obtain ⟨k,hk,rfl,HB⟩:=hrel;by_cases hlt:k<n
    · have hl1:(k:Int)<(n:Int):=by omega
      have hl0:(0:Int)≤(k:Int):=by omega
      have hkl:k<xs.length:=by rw [HLN.out];exact hlt
      have c0:=(HB.out.cell (p:=⟨g,k,none⟩) hgl).trans (HCL.out k hkl);obtain ⟨q,P,cp,hx,f2,f3,hql,hmk⟩:=(HM.out _ (List.getElem_mem hkl)).at;rw [hx] at c0;have HMK:=hQz hmk;clear hx hmk hkl;go_wp2_with fail
      go_loopw [5] (fun i wr=>∃ m:Nat,m≤16∧i= .int .i64 (m:Int)∧Hid (Below w.heap.size w wr)) (fun i _=>16-(intOf i).toNat)
      case atStart=>exact ⟨0,Nat.zero_le _,rfl,HB⟩
      case round=>
       clear HB c0;obtain ⟨m,hm,rfl,HB⟩:=hrel;by_cases hlt2:m<16
       · have hm1:(m:Int)<16:=by omega
         have hm0:(0:Int)≤(m:Int):=by omega
         have i1:(0:Int)≤(P:Int)+(m:Int):=by omega
         have i2:(P:Int)+(m:Int)<(P:Int)+16:=by omega
         have i3:(P:Int)≤1099511627776:=by omega
         have i4:((P:Int)+(m:Int)).toNat=P+m:=by omega
         obtain ⟨cs,hcs,hce⟩:=HMK.out m hlt2;have hks:(wbL m).size≤140737488355328:=by show 8≤140737488355328;decide
         have HC:=hQz (fun u=>w_lmarkTy m u (by omega));obtain ⟨Q1,e0,_,hq1,hqc⟩:∃ Q1,cs=[.bool false,.bool false,.bool false,.bool false,.slice none 0 0,.bool false,.slice (some ⟨Q1,0,none⟩) 1 1,.slice none 0 0,.slice none 0 0]∧D Q1∧Q1<w.heap.size∧w.cell? ⟨Q1,0,none⟩=some (.string (wbL m)):=hcs;have k0:w.cell? ⟨q,(P+m)*9,none⟩=some (.bool false):=hce 0 _ (by rw [e0];rfl);have k1:w.cell? ⟨q,(P+m)*9+1,none⟩=some (.bool false):=hce 1 _ (by rw [e0];rfl);have k2:w.cell? ⟨q,(P+m)*9+2,none⟩=some (.bool false):=hce 2 _ (by rw [e0];rfl);have k3:w.cell? ⟨q,(P+m)*9+3,none⟩=some (.bool false):=hce 3 _ (by rw [e0];rfl);have k4:w.cell? ⟨q,(P+m)*9+4,none⟩=some (.slice none 0 0):=hce 4 _ (by rw [e0];rfl);have k5:w.cell? ⟨q,(P+m)*9+5,none⟩=some (.bool false):=hce 5 _ (by rw [e0];rfl);have k6:w.cell? ⟨q,(P+m)*9+6,none⟩=some (.slice (some ⟨Q1,0,none⟩) 1 1):=hce 6 _ (by rw [e0];rfl);have k7:w.cell? ⟨q,(P+m)*9+7,none⟩=some (.slice none 0 0):=hce 7 _ (by rw [e0];rfl);have k8:w.cell? ⟨q,(P+m)*9+8,none⟩=some (.slice none 0 0):=hce 8 _ (by rw [e0];rfl);clear e0 hce;generalize wbL m=key at HC hks hqc;have HK:=hQz (And.intro k0 (And.intro k1 (And.intro k2 (And.intro k3 (And.intro k4 (And.intro k5 (And.intro k6 (And.intro k7 (k8)))))))));have HQC:=hQz (And.intro hq1 hqc);clear hq1 hqc;clear k0 k1 k2 k3 k4 k5 k6 k7 k8;go_wp2_with fail;refine (HC.out _).mono ?_;rintro e w4 ⟨Q2,rfl,hq2,hq3,hq4,hb4⟩;have hB4:Below w.heap.size w w4:=HB.out.trans (hb4.mono HB.out.size);obtain ⟨W5,hW5⟩:∃ W5,w4.alloc (.cells #[.bool false,.bool false,.bool false,.bool false,.slice none 0 0,.bool false,.slice (some ⟨Q2,0,none⟩) 1 1,.slice none 0 0,.slice none 0 0] 27)=W5:=⟨_,rfl⟩;have hb5:Below w4.heap.size w4 W5:=by rw [← hW5];exact q05 w4 _
         have hbx:W5.heap[w4.heap.size]? =some (.cells #[.bool false,.bool false,.bool false,.bool false,.slice none 0 0,.bool false,.slice (some ⟨Q2,0,none⟩) 1 1,.slice none 0 0,.slice none 0 0] 27 (0,0)):=by rw [← hW5];exact heap_alloc_new w4 _
         have hB5:Below w.heap.size w W5:=hB4.trans (hb5.mono hB4.size);have HB5:=hQz hB5;have hwq:=(hB5.cell (p:=⟨Q1,0,none⟩) HQC.out.1).trans HQC.out.2;have hwq2:=(hb5.cell (p:=⟨Q2,0,none⟩) hq3).trans hq4;have hs1:Q1<W5.heap.size:=Nat.lt_of_lt_of_le HQC.out.1 hB5.size;have hs2:Q2<W5.heap.size:=Nat.lt_of_lt_of_le hq3 hb5.size;have HSM:=hQz (fun (d:Nat) (os:Array Obj)=>w_mkTy key hks Q1 Q2 (grow (redrawn W5 d) os) (Nat.lt_of_lt_of_le hs1 (below_regrown W5 d os).size) (cell_regrown hwq d os) (Nat.lt_of_lt_of_le hs2 (below_regrown W5 d os).size) (cell_regrown hwq2 d os));clear hwq hwq2 hs1 hs2 hq2 hq3 hq4 HQC;obtain ⟨k0,k1,k2,k3,k4,k5,k6,k7,k8⟩:=HK.out;obtain ⟨z0,z1,z2,z3,z4,z5,z6,z7,z8,_⟩:=q0r hbx;have R0:=fun d os=>cell_regrown ((hB5.cell (p:=⟨q,(P+m)*9,none⟩) hql).trans k0) d os;have R1:=fun d os=>cell_regrown ((hB5.cell (p:=⟨q,(P+m)*9+1,none⟩) hql).trans k1) d os;have R2:=fun d os=>cell_regrown ((hB5.cell (p:=⟨q,(P+m)*9+2,none⟩) hql).trans k2) d os;have R3:=fun d os=>cell_regrown ((hB5.cell (p:=⟨q,(P+m)*9+3,none⟩) hql).trans k3) d os;have R4:=fun d os=>cell_regrown ((hB5.cell (p:=⟨q,(P+m)*9+4,none⟩) hql).trans k4) d os;have R5:=fun d os=>cell_regrown ((hB5.cell (p:=⟨q,(P+m)*9+5,none⟩) hql).trans k5) d os;have R6:=fun d os=>cell_regrown ((hB5.cell (p:=⟨q,(P+m)*9+6,none⟩) hql).trans k6) d os;have R7:=fun d os=>cell_regrown ((hB5.cell (p:=⟨q,(P+m)*9+7,none⟩) hql).trans k7) d os;have R8:=fun d os=>cell_regrown ((hB5.cell (p:=⟨q,(P+m)*9+8,none⟩) hql).trans k8) d os;have S0:=fun d os=>cell_regrown z0 d os;have S1:=fun d os=>cell_regrown z1 d os;have S2:=fun d os=>cell_regrown z2 d os;have S3:=fun d os=>cell_regrown z3 d os;have S4:=fun d os=>cell_regrown z4 d os;have S5:=fun d os=>cell_regrown z5 d os;have S6:=fun d os=>cell_regrown z6 d os;have S7:=fun d os=>cell_regrown z7 d os;have S8:=fun d os=>cell_regrown z8 d os;have HW5:=hQz hW5;clear hb4 HC HK hb5 hbx hB4 hB5 k0 k1 k2 k3 k4 k5 k6 k7 k8 z0 z1 z2 z3 z4 z5 z6 z7 z8 hW5;go_wp2_with fail;rw [HW5.out];refine wp_region_quiet_below (by kernel_rfl) (by kernel_rfl) ?_
         repeat (go_big_quiet_step (exact Calls.regrown_of (HSM.out _ _)))
         refine wpQuiet_nil ?_;intro wz hw'
         have HBz:Hid (Below w.heap.size w wz):=by
          obtain ⟨⟨dq,osq⟩,rfl⟩:=hw';exact HB5.out.trans ((below_regrown W5 dq osq).mono HB5.out.size)
         clear hw';go_wp2_with fail;go_roundw
         case rel=>exact ⟨m+1,by omega,by go_num,HBz⟩
         case measure=>simp [intOf];omega
       · have hm1:¬ (m:Int)<16:=by omega
         go_wp2_with fail;go_roundw
         case rel=>exact ⟨k+1,by omega,by go_num,HB⟩
         case measure=>simp [intOf];omega
    · have hl1:¬ (k:Int)<(n:Int):=by omega
      go_wp2_with fail;go_ret;exact ⟨rfl,HB.out⟩
theorem w_KeptT (B:Nat) (w:World) (c:Nat→Value) (n:Nat→Nat) (Dm:Nat→Prop) (hL:LtAt B w c n Dm) (hn:∀ q,n q≤4398046511104):
 Calls Tryz.prog 10 #[.pointer (some ⟨B,0,none⟩)] w fun e w'=>e= .returned (.bool true)∧Below w.heap.size w w':=by
 have HF0:Hid (∀ u,LtAt B u c n Dm→Calls Tryz.prog 25 #[c 0] u fun e w'=>e= .returned (.bool true)∧Below u.heap.size u w'):=hQz (fun u hu=>by
  obtain ⟨xs,h1,h2⟩:=hu.own 0;exact w_keptSt B (n 0) (c 0) Dm xs u h1 (h2 (by unfold q0f;decide)) (hn 0))
 have HF1:Hid (∀ u,LtAt B u c n Dm→Calls Tryz.prog 26 #[c 1] u fun e w'=>e= .returned (.bool true)∧Below u.heap.size u w'):=hQz (fun u hu=>by
  obtain ⟨xs,h1,h2⟩:=hu.own 1;exact w_keptBo B (n 1) (c 1) Dm xs u h1 (h2 (by unfold q0f;decide)) (hn 1))
 have HF6:Hid (∀ u,LtAt B u c n Dm→Calls Tryz.prog 31 #[c 6] u fun e w'=>e= .returned (.bool true)∧Below u.heap.size u w'):=hQz (fun u hu=>by
  obtain ⟨xs,h1,h2⟩:=hu.own 6;exact w_keptSp B (n 6) (c 6) Dm xs u h1 (h2 (by unfold q0f;decide)) (hn 6))
 have HF7:Hid (∀ u,LtAt B u c n Dm→Calls Tryz.prog 32 #[c 7] u fun e w'=>e= .returned (.bool true)∧Below u.heap.size u w'):=hQz (fun u hu=>by
  obtain ⟨xs,h1,h2⟩:=hu.own 7;exact w_keptAr B (n 7) (c 7) Dm xs u h1 (h2 (by unfold q0f;decide)) (hn 7))
 have HF8:Hid (∀ u,LtAt B u c n Dm→Calls Tryz.prog 33 #[c 8] u fun e w'=>e= .returned (.bool true)∧Below u.heap.size u w'):=hQz (fun u hu=>by
  obtain ⟨xs,h1,h2⟩:=hu.own 8;exact w_keptOb B (n 8) (c 8) Dm xs u h1 (h2 (by unfold q0f;decide)) (hn 8))
 have HF9:Hid (∀ u,LtAt B u c n Dm→Calls Tryz.prog 34 #[c 9] u fun e w'=>e= .returned (.bool true)∧Below u.heap.size u w'):=hQz (fun u hu=>by
  obtain ⟨xs,h1,h2⟩:=hu.own 9;exact w_keptTy B (n 9) (c 9) Dm xs u h1 (h2 (by unfold q0f;decide)) (hn 9))
 have HNL:Hid (∀ j,¬ q0f j→c j= .slice none 0 0):=hQz hL.nil;have HL0:=hQz hL;have HB0:=hQz (Below.refl w.heap.size w);clear hL hn;have c0:w.cell? ⟨B,0,none⟩=some (c 0):=HL0.out.cell rfl;have HC:=hQz (HF0.out w HL0.out);clear HF0;generalize c 0=v0 at c0 HC;go_enter Tryz.func10,Tryz.ntmps10;go_wp2_with fail;refine HC.out.mono ?_;rintro e w1 ⟨rfl,hb1⟩;have HB1:=hQz (HB0.out.trans (hb1.mono HB0.out.size));have HL1:=hQz (HL0.out.keep hb1);clear hb1 c0 HC;have c1:w1.cell? ⟨B,1,none⟩=some (c 1):=HL1.out.cell rfl;have HC:=hQz (HF1.out w1 HL1.out);clear HF1;generalize c 1=v1 at c1 HC;go_wp2_with fail;refine HC.out.mono ?_;rintro e w2 ⟨rfl,hb2⟩;have HB2:=hQz (HB1.out.trans (hb2.mono HB1.out.size));have HL2:=hQz (HL1.out.keep hb2);clear hb2 c1 HC;have c2:w2.cell? ⟨B,2,none⟩=some (.slice none 0 0):=(HL2.out.cell rfl).trans (congrArg some (HNL.out 2 (by unfold q0f;decide)));go_wp2_with fail;refine (w_keptInts0 _).mono ?_;rintro e w3 ⟨rfl,he⟩;subst he;have HB3:=HB2;have HL3:=HL2;clear c2;have c3:w3.cell? ⟨B,3,none⟩=some (.slice none 0 0):=(HL3.out.cell rfl).trans (congrArg some (HNL.out 3 (by unfold q0f;decide)));go_wp2_with fail;refine (w_keptBytes0 _).mono ?_;rintro e w4 ⟨rfl,he⟩;subst he;have HB4:=HB3;have HL4:=HL3;clear c3;have c4:w4.cell? ⟨B,4,none⟩=some (.slice none 0 0):=(HL4.out.cell rfl).trans (congrArg some (HNL.out 4 (by unfold q0f;decide)));go_wp2_with fail;refine (w_keptValues0 _).mono ?_;rintro e w5 ⟨rfl,he⟩;subst he;have HB5:=HB4;have HL5:=HL4;clear c4;have c5:w5.cell? ⟨B,5,none⟩=some (.slice none 0 0):=(HL5.out.cell rfl).trans (congrArg some (HNL.out 5 (by unfold q0f;decide)));go_wp2_with fail;refine (w_keptTokens0 _).mono ?_;rintro e w6 ⟨rfl,he⟩;subst he;have HB6:=HB5;have HL6:=HL5;clear c5;have c6:w6.cell? ⟨B,6,none⟩=some (c 6):=HL6.out.cell rfl;have HC:=hQz (HF6.out w6 HL6.out);clear HF6;generalize c 6=v6 at c6 HC;go_wp2_with fail;refine HC.out.mono ?_;rintro e w7 ⟨rfl,hb7⟩;have HB7:=hQz (HB6.out.trans (hb7.mono HB6.out.size));have HL7:=hQz (HL6.out.keep hb7);clear hb7 c6 HC;have c7:w7.cell? ⟨B,7,none⟩=some (c 7):=HL7.out.cell rfl;have HC:=hQz (HF7.out w7 HL7.out);clear HF7;generalize c 7=v7 at c7 HC;go_wp2_with fail;refine HC.out.mono ?_;rintro e w8 ⟨rfl,hb8⟩;have HB8:=hQz (HB7.out.trans (hb8.mono HB7.out.size));have HL8:=hQz (HL7.out.keep hb8)
 clear hb8 c7 HC;have c8:w8.cell? ⟨B,8,none⟩=some (c 8):=HL8.out.cell rfl;have HC:=hQz (HF8.out w8 HL8.out);clear HF8;generalize c 8=v8 at c8 HC;go_wp2_with fail;refine HC.out.mono ?_;rintro e w9 ⟨rfl,hb9⟩;have HB9:=hQz (HB8.out.trans (hb9.mono HB8.out.size));have HL9:=hQz (HL8.out.keep hb9);clear hb9 c8 HC;have c9:w9.cell? ⟨B,9,none⟩=some (c 9):=HL9.out.cell rfl;have HC:=hQz (HF9.out w9 HL9.out);clear HF9;generalize c 9=v9 at c9 HC;go_wp2_with fail;refine HC.out.mono ?_;rintro e w10 ⟨rfl,hb10⟩;have HB10:=hQz (HB9.out.trans (hb10.mono HB9.out.size));have HL10:=hQz (HL9.out.keep hb10);clear hb10 c9 HC;have c10:w10.cell? ⟨B,10,none⟩=some (.slice none 0 0):=(HL10.out.cell rfl).trans (congrArg some (HNL.out 10 (by unfold q0f;decide)));go_wp2_with fail;refine (w_keptNodes0 _).mono ?_;rintro e w11 ⟨rfl,he⟩;subst he;have HB11:=HB10;have HL11:=HL10;clear c10;have c11:w11.cell? ⟨B,11,none⟩=some (.slice none 0 0):=(HL11.out.cell rfl).trans (congrArg some (HNL.out 11 (by unfold q0f;decide)));go_wp2_with fail;refine (w_keptResults0 _).mono ?_;rintro e w12 ⟨rfl,he⟩;subst he;have HB12:=HB11;have HL12:=HL11;clear c11;have c12:w12.cell? ⟨B,12,none⟩=some (.slice none 0 0):=(HL12.out.cell rfl).trans (congrArg some (HNL.out 12 (by unfold q0f;decide)));go_wp2_with fail;refine (w_keptTypeds0 _).mono ?_;rintro e w13 ⟨rfl,he⟩;subst he;have HB13:=HB12;have HL13:=HL12;clear c12;have c13:w13.cell? ⟨B,13,none⟩=some (.slice none 0 0):=(HL13.out.cell rfl).trans (congrArg some (HNL.out 13 (by unfold q0f;decide)));go_wp2_with fail;refine (w_keptCodes0 _).mono ?_;rintro e w14 ⟨rfl,he⟩;subst he;have HB14:=HB13;have HL14:=HL13;clear c13;have c14:w14.cell? ⟨B,14,none⟩=some (.slice none 0 0):=(HL14.out.cell rfl).trans (congrArg some (HNL.out 14 (by unfold q0f;decide)));go_wp2_with fail;refine (w_keptReasons0 _).mono ?_;rintro e w15 ⟨rfl,he⟩;subst he;have HB15:=HB14;have HL15:=HL14;clear c14;have c15:w15.cell? ⟨B,15,none⟩=some (.slice none 0 0):=(HL15.out.cell rfl).trans (congrArg some (HNL.out 15 (by unfold q0f;decide)));go_wp2_with fail;refine (w_keptVerdicts0 _).mono ?_;rintro e w16 ⟨rfl,he⟩;subst he;have HB16:=HB15;have HL16:=HL15;clear c15;go_wp2_with fail;go_ret;exact ⟨rfl,HB16.out⟩
end Go.Proofs.YtnokkmiaeacogaaGreat
