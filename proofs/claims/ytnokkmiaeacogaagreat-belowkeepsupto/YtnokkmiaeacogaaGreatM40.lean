import Derived.Test.YtnokkmiaeacogaaGreatM17
import Derived.Test.YtnokkmiaeacogaaGreatM18
import Derived.Test.YtnokkmiaeacogaaGreatM2
import Derived.Test.YtnokkmiaeacogaaGreatM30
import Derived.Lib.QuietBelow
import Derived.BigQuiet
set_option linter.unusedVariables false
set_option linter.unusedSimpArgs false
namespace Go.Proofs.YtnokkmiaeacogaaGreat
open Go.RowKit Go.Shelf Go.Sort
attribute [local go_sem] Oper.semAt_some
set_option maxRecDepth 100000
set_option maxHeartbeats 12800000
theorem MkRt.at {D:Nat→Prop} {w:World} {j:Nat} {x:Value} (h:MkRt D w j x):∃ q P cap,x= .slice (some ⟨q,0,none⟩) (P+16) cap∧P+16≤1099511627776∧P+16≤cap∧q<w.heap.size∧∀ i,i<16→∃ cs:List Value,MkC D w j i cs∧∀ (k:Nat) (u:Value),cs[k]? =some u→w.cell? ⟨q,(P+i)*ltZ j+k,none⟩=some u:=by
 obtain ⟨g,nn,cap,cur,e,h1,h2,h3,h4,h5,h6⟩:=h;obtain ⟨P,rfl⟩:∃ P,nn=P+16:=⟨nn-16,by omega⟩;refine ⟨g,P,cap,e,h2,h3,(Array.getElem?_eq_some_iff.1 h5).1,fun i hi=> ?_⟩;obtain ⟨cs,_,k2,k3⟩:=h6 i hi;refine ⟨cs,k2,fun k u hu=> ?_⟩;have h7:w.cell? ⟨g,(P+i)*ltZ j+k,none⟩=cur[(P+i)*ltZ j+k]? :=cell_of_row _ _ _ _ _ _ h5;have h8:=k3 k u hu;rw [Nat.add_sub_cancel] at h8;exact h7.trans h8
theorem LtAt.cell {B:Nat} {w:World} {c:Nat→Value} {n:Nat→Nat} {Dm:Nat→Prop} (h:LtAt B w c n Dm) {j:Nat} {v:Value} (hv: #[c 0,c 1,c 2,c 3,c 4,c 5,c 6,c 7,c 8,c 9,c 10,c 11,c 12,c 13,c 14,c 15][j]? =some v):w.cell? ⟨B,j,none⟩=some v:=(cell_of_row _ _ j _ _ _ h.box).trans hv
def nvT:TT:= .mk false false false false false [] [] [] []
theorem nv_in (W:World):InT W 1 nvT (.agg #[.bool false,.bool false,.bool false,.bool false,.slice none 0 0,.bool false,.slice none 0 0,.slice none 0 0,.slice none 0 0]):=
 ⟨none,0,none,0,none,0,none,0,rfl,⟨Nat.le_refl _,Nat.le_refl _,Nat.le_refl _,Nat.le_refl _⟩,⟨Nat.zero_le _,Nat.zero_le _,Nat.zero_le _,Nat.zero_le _⟩,(fun p hp=>by cases hp),(fun k hk=>by cases hk),⟨fun h=>absurd h (by show ¬ 0<0;omega)⟩,⟨fun h=>absurd h (by show ¬ 0<0;omega)⟩,fun h=>absurd h (by show ¬ 0<0;omega),fun h=>absurd h (by show ¬ 0<0;omega)⟩
theorem kin_one {W:World} {Q:Nat} {key:ByteArray} (h:Q<W.heap.size) (hc:W.cell? ⟨Q,0,none⟩=some (.string key)):KIn W (some ⟨Q,0,none⟩) [key]:=⟨fun _=>⟨Q,0,rfl,h,fun i hi=>by
 have e:i=0:=by simp at hi;omega
 subst e;exact hc⟩⟩
theorem mkTy_in {W:World} {Q:Nat} {key:ByteArray} (hk:key.size≤140737488355328) (h:Q<W.heap.size) (hc:W.cell? ⟨Q,0,none⟩=some (.string key)):InT W 1 (.mk false false false false false [] [key] [] []) (.agg #[.bool false,.bool false,.bool false,.bool false,.slice none 0 0,.bool false,.slice (some ⟨Q,0,none⟩) 1 1,.slice none 0 0,.slice none 0 0]):=
 ⟨none,0,some ⟨Q,0,none⟩,1,none,0,none,0,rfl,⟨Nat.le_refl _,Nat.le_refl _,Nat.le_refl _,Nat.le_refl _⟩,⟨Nat.zero_le _,by show 1≤140737488355328;decide,Nat.zero_le _,Nat.zero_le _⟩,(fun p hp=>by cases hp),(fun k hk2=>by rcases List.mem_singleton.1 hk2 with rfl;exact hk),⟨fun h=>absurd h (by show ¬ 0<0;omega)⟩,kin_one h hc,fun h=>absurd h (by show ¬ 0<0;omega),fun h=>absurd h (by show ¬ 0<0;omega)⟩
theorem mkOb_in {W:World} {Q:Nat} {key:ByteArray} (hk:key.size≤140737488355328) (h:Q<W.heap.size) (hc:W.cell? ⟨Q,0,none⟩=some (.string key)):InO W 1 (.mk [key] [] [] nvT) (some ⟨Q,0,none⟩) 1 none 0 none 0 (.bool false) (.bool false) (.bool false) (.bool false) (.slice none 0 0) (.bool false) (.slice none 0 0) (.slice none 0 0) (.slice none 0 0):=
 ⟨⟨Nat.le_refl _,Nat.le_refl _,Nat.le_refl _⟩,⟨by show 1≤140737488355328;decide,Nat.zero_le _,Nat.zero_le _,(fun k hk2=>by rcases List.mem_singleton.1 hk2 with rfl;exact hk)⟩,kin_one h hc,⟨fun h=>absurd h (by show ¬ 0<0;omega)⟩,fun h=>absurd h (by show ¬ 0<0;omega),nv_in W⟩
theorem eqS_refl (a:ByteArray):eqS a a=true:=by simp [eqS]
theorem w_mkSpan (key:ByteArray) (u:World):Calls Tryz.prog 71 #[.agg #[.string key,.string ⟨#[]⟩],.agg #[.string key,.string ⟨#[]⟩]] u fun e w'=>e= .returned (.bool true)∧Below u.heap.size u w':=by
 have h:=w_kSameSpan key ⟨#[]⟩ key ⟨#[]⟩ u;rw [show sSp (key,⟨#[]⟩) (key,⟨#[]⟩)=true from by show (eqS key key&&eqS _ _)=true;rw [eqS_refl,eqS_refl];rfl] at h;exact h
theorem w_mkArr (i:Int) (u:World):Calls Tryz.prog 72 #[.agg #[.bool false,.bool false,.bool false,.bool false,.slice none 0 0,.bool false,.slice none 0 0,.slice none 0 0,.slice none 0 0,.int .i64 (-1),.int .i64 i],.agg #[.bool false,.bool false,.bool false,.bool false,.slice none 0 0,.bool false,.slice none 0 0,.slice none 0 0,.slice none 0 0,.int .i64 (-1),.int .i64 i]] u fun e w'=>e= .returned (.bool true)∧Below u.heap.size u w':=by
 have h:=w_kSameArr 1 (q0y 1) (.mk nvT (-1) i) (.mk nvT (-1) i) _ _ _ _ _ _ _ _ _ _ _ _ _ _ _ _ _ _ u (nv_in u) (nv_in u);rw [show sAr (q09 1) (.mk nvT (-1) i) (.mk nvT (-1) i)=true from by show (decide ((-1:Int)= -1)&&(decide (i=i)&&q09 1 nvT nvT))=true;rw [show q09 1 nvT nvT=true from rfl];simp] at h;exact h
theorem w_mkObj (key:ByteArray) (hk:key.size≤140737488355328) (Q1 Q2:Nat) (u:World) (h1:Q1<u.heap.size) (c1:u.cell? ⟨Q1,0,none⟩=some (.string key)) (h2:Q2<u.heap.size) (c2:u.cell? ⟨Q2,0,none⟩=some (.string key)):Calls Tryz.prog 73 #[.agg #[.slice (some ⟨Q1,0,none⟩) 1 1,.slice none 0 0,.slice none 0 0,.bool false,.bool false,.bool false,.bool false,.slice none 0 0,.bool false,.slice none 0 0,.slice none 0 0,.slice none 0 0],.agg #[.slice (some ⟨Q2,0,none⟩) 1 1,.slice none 0 0,.slice none 0 0,.bool false,.bool false,.bool false,.bool false,.slice none 0 0,.bool false,.slice none 0 0,.slice none 0 0,.slice none 0 0]] u fun e w'=>e= .returned (.bool true)∧Below u.heap.size u w':=by
 have h:=w_kSameObj 1 (q0y 1) (.mk [key] [] [] nvT) (.mk [key] [] [] nvT) _ _ _ _ _ _ _ _ _ _ _ _ _ _ _ _ _ _ _ _ _ _ _ _ _ _ _ _ _ _ u (mkOb_in hk h1 c1) (mkOb_in hk h2 c2);rw [show sOb (q09 1) (.mk [key] [] [] nvT) (.mk [key] [] [] nvT)=true from by show ((decide (1=1)&&(eqS key key&&true))&&(true&&(true&&q09 1 nvT nvT)))=true;rw [eqS_refl];rfl] at h;exact h
theorem w_mkTy (key:ByteArray) (hk:key.size≤140737488355328) (Q1 Q2:Nat) (u:World) (h1:Q1<u.heap.size) (c1:u.cell? ⟨Q1,0,none⟩=some (.string key)) (h2:Q2<u.heap.size) (c2:u.cell? ⟨Q2,0,none⟩=some (.string key)):Calls Tryz.prog 9 #[.agg #[.bool false,.bool false,.bool false,.bool false,.slice none 0 0,.bool false,.slice (some ⟨Q1,0,none⟩) 1 1,.slice none 0 0,.slice none 0 0],.agg #[.bool false,.bool false,.bool false,.bool false,.slice none 0 0,.bool false,.slice (some ⟨Q2,0,none⟩) 1 1,.slice none 0 0,.slice none 0 0]] u fun e w'=>e= .returned (.bool true)∧Below u.heap.size u w':=by
 have h:=q0y 1 _ _ _ _ u (mkTy_in hk h1 c1) (mkTy_in hk h2 c2);rw [show q09 1 (.mk false false false false false [] [key] [] []) (.mk false false false false false [] [key] [] [])=true from by simp [q09,q0a,TT.all,TT.nul,TT.fls,TT.tru,TT.any,TT.nums,TT.texts,TT.arrs,TT.objs,eqB,eqS_refl]] at h;exact h
theorem w_keptSt (B n:Nat) (v:Value) (D:Nat→Prop) (xs:List Value) (w:World) (hown:w.ownsRow (B+1) 23 1 v n xs) (hm:∀ x∈xs,MkRt D w 0 x) (hn:n≤4398046511104):
 Calls Tryz.prog 25 #[v] w fun e w'=>e= .returned (.bool true)∧Below w.heap.size w w':=by
 rcases hown.2 with ⟨rfl,rfl⟩|⟨g,cap,cur,rfl,e1,e2,e3,e4,e5,e6⟩
 · exact (w_keptStrings0 w).mono fun e w' ⟨h1,h2⟩=>⟨h1,by rw [h2];exact Below.refl _ _⟩
 · have hlen:xs.length=n:=by have:=hown.1;omega
   have hgl:g<w.heap.size:=(Array.getElem?_eq_some_iff.1 e2).1
   have hcell:∀ k,(hk:k<xs.length)→w.cell? ⟨g,k,none⟩=some xs[k]:=fun k hk=>by
    have h1:w.cell? ⟨g,k,none⟩=cur[k]? :=cell_of_row _ _ _ _ _ _ e2;have h2:xs[k]? =some xs[k]:=List.getElem?_eq_getElem hk;rw [h1];rw [← h2]
    conv=>rhs;rw [← e6]
    rw [List.getElem?_take,if_pos (by omega),Array.getElem?_toList]
   have HCL:=hQz hcell;have HM:=hQz hm;have HLN:=hQz hlen;clear hown e1 e2 e4 e5 e6 hcell hm hlen;go_enter Tryz.func25,Tryz.ntmps25;go_wp2_with fail
   go_loopw [3] (fun i wr=>∃ k:Nat,k≤n∧i= .int .i64 (k:Int)∧Hid (Below w.heap.size w wr)) (fun i _=>n-(intOf i).toNat)
   case atStart=>exact ⟨0,Nat.zero_le _,rfl,Below.refl _ _⟩
   case round=>
    obtain ⟨k,hk,rfl,HB⟩:=hrel;by_cases hlt:k<n
    · have hl1:(k:Int)<(n:Int):=by omega
      have hl0:(0:Int)≤(k:Int):=by omega
      have hkl:k<xs.length:=by rw [HLN.out];exact hlt
      have c0:=(HB.out.cell (p:=⟨g,k,none⟩) hgl).trans (HCL.out k hkl);obtain ⟨q,P,cp,hx,f2,f3,hql,hmk⟩:=(HM.out _ (List.getElem_mem hkl)).at;rw [hx] at c0;have HMK:=hQz hmk;clear hx hmk hkl;go_wp2_with fail
      go_loopw [5] (fun i wr=>∃ m:Nat,m≤16∧i= .int .i64 (m:Int)∧Hid (Below w.heap.size w wr)) (fun i _=>16-(intOf i).toNat)
      case atStart=>exact ⟨0,Nat.zero_le _,rfl,HB⟩
      case round=>
       clear HB c0;obtain ⟨m,hm,rfl,HB⟩:=hrel;by_cases hlt2:m<16
       · have hm1:(m:Int)<16:=by omega
         have hm0:(0:Int)≤(m:Int):=by omega
         have i1:(0:Int)≤(P:Int)+(m:Int):=by omega
         have i2:(P:Int)+(m:Int)<(P:Int)+16:=by omega
         have i3:(P:Int)≤1099511627776:=by omega
         have i4:((P:Int)+(m:Int)).toNat=P+m:=by omega
         obtain ⟨cs,hcs,hce⟩:=HMK.out m hlt2;have HC:=hQz (fun u=>w_lmarkS m u (by omega));have e0:cs=[.string (wbL m)]:=hcs;have hk0:w.cell? ⟨q,(P+m)*1+0,none⟩=some (.string (wbL m)):=hce 0 _ (by rw [e0];rfl);rw [show (P+m)*1+0=P+m by omega] at hk0;have HK:=hQz hk0;clear e0 hcs hce hk0;generalize wbL m=key at HC HK;go_wp2_with fail;refine (HC.out _).mono ?_;rintro e w4 ⟨rfl,hb4⟩;have HBz:Hid (Below w.heap.size w w4):=HB.out.trans (hb4.mono HB.out.size);have d0:=(HBz.out.cell (p:=⟨q,P+m,none⟩) hql).trans HK.out;clear hb4 HC HK;go_wp2_with fail;go_roundw
         case rel=>exact ⟨m+1,by omega,by go_num,HBz⟩
         case measure=>simp [intOf];omega
       · have hm1:¬ (m:Int)<16:=by omega
         go_wp2_with fail;go_roundw
         case rel=>exact ⟨k+1,by omega,by go_num,HB⟩
         case measure=>simp [intOf];omega
    · have hl1:¬ (k:Int)<(n:Int):=by omega
      go_wp2_with fail;go_ret;exact ⟨rfl,HB.out⟩
theorem w_keptBo (B n:Nat) (v:Value) (D:Nat→Prop) (xs:List Value) (w:World) (hown:w.ownsRow (B+1) 93 1 v n xs) (hm:∀ x∈xs,MkRt D w 1 x) (hn:n≤4398046511104):
 Calls Tryz.prog 26 #[v] w fun e w'=>e= .returned (.bool true)∧Below w.heap.size w w':=by
 rcases hown.2 with ⟨rfl,rfl⟩|⟨g,cap,cur,rfl,e1,e2,e3,e4,e5,e6⟩
 · exact (w_keptBools0 w).mono fun e w' ⟨h1,h2⟩=>⟨h1,by rw [h2];exact Below.refl _ _⟩
 · have hlen:xs.length=n:=by have:=hown.1;omega
   have hgl:g<w.heap.size:=(Array.getElem?_eq_some_iff.1 e2).1
   have hcell:∀ k,(hk:k<xs.length)→w.cell? ⟨g,k,none⟩=some xs[k]:=fun k hk=>by
    have h1:w.cell? ⟨g,k,none⟩=cur[k]? :=cell_of_row _ _ _ _ _ _ e2;have h2:xs[k]? =some xs[k]:=List.getElem?_eq_getElem hk;rw [h1];rw [← h2]
    conv=>rhs;rw [← e6]
    rw [List.getElem?_take,if_pos (by omega),Array.getElem?_toList]
   have HCL:=hQz hcell;have HM:=hQz hm;have HLN:=hQz hlen;clear hown e1 e2 e4 e5 e6 hcell hm hlen;go_enter Tryz.func26,Tryz.ntmps26;go_wp2_with fail
   go_loopw [3] (fun i wr=>∃ k:Nat,k≤n∧i= .int .i64 (k:Int)∧Hid (Below w.heap.size w wr)) (fun i _=>n-(intOf i).toNat)
   case atStart=>exact ⟨0,Nat.zero_le _,rfl,Below.refl _ _⟩
   case round=>
    obtain ⟨k,hk,rfl,HB⟩:=hrel;by_cases hlt:k<n
    · have hl1:(k:Int)<(n:Int):=by omega
      have hl0:(0:Int)≤(k:Int):=by omega
      have hkl:k<xs.length:=by rw [HLN.out];exact hlt
      have c0:=(HB.out.cell (p:=⟨g,k,none⟩) hgl).trans (HCL.out k hkl);obtain ⟨q,P,cp,hx,f2,f3,hql,hmk⟩:=(HM.out _ (List.getElem_mem hkl)).at;rw [hx] at c0;have HMK:=hQz hmk;clear hx hmk hkl;go_wp2_with fail
      go_loopw [5] (fun i wr=>∃ m:Nat,m≤16∧i= .int .i64 (m:Int)∧Hid (Below w.heap.size w wr)) (fun i _=>16-(intOf i).toNat)
      case atStart=>exact ⟨0,Nat.zero_le _,rfl,HB⟩
      case round=>
       clear HB c0;obtain ⟨m,hm,rfl,HB⟩:=hrel;by_cases hlt2:m<16
       · have hm1:(m:Int)<16:=by omega
         have hm0:(0:Int)≤(m:Int):=by omega
         have i1:(0:Int)≤(P:Int)+(m:Int):=by omega
         have i2:(P:Int)+(m:Int)<(P:Int)+16:=by omega
         have i3:(P:Int)≤1099511627776:=by omega
         have i4:((P:Int)+(m:Int)).toNat=P+m:=by omega
         obtain ⟨cs,hcs,hce⟩:=HMK.out m hlt2;have e0:cs=[.bool (decide (m%2=0))]:=hcs;have hk0:w.cell? ⟨q,(P+m)*1+0,none⟩=some (.bool (decide (m%2=0))):=hce 0 _ (by rw [e0];rfl);rw [show (P+m)*1+0=P+m by omega] at hk0;obtain ⟨key,hkey⟩:∃ key,decide (m%2=0)=key:=⟨_,rfl⟩
         have hkey2:((m:Int)%2==0)=key:=by
          rw [← hkey];by_cases h:m%2=0
          · have h3:(m:Int)%2=0:=by omega
            simp [h,h3]
          · have h3:(m:Int)%2=1:=by omega
            simp [h,h3]
         rw [hkey] at hk0;have HBz:=HB;have d0:=(HBz.out.cell (p:=⟨q,P+m,none⟩) hql).trans hk0;clear e0 hcs hce hk0 hkey;go_wp2_with fail;go_roundw
         case rel=>exact ⟨m+1,by omega,by go_num,HBz⟩
         case measure=>simp [intOf];omega
       · have hm1:¬ (m:Int)<16:=by omega
         go_wp2_with fail;go_roundw
         case rel=>exact ⟨k+1,by omega,by go_num,HB⟩
         case measure=>simp [intOf];omega
    · have hl1:¬ (k:Int)<(n:Int):=by omega
      go_wp2_with fail;go_ret;exact ⟨rfl,HB.out⟩
theorem w_keptSp (B n:Nat) (v:Value) (D:Nat→Prop) (xs:List Value) (w:World) (hown:w.ownsRow (B+1) 22 1 v n xs) (hm:∀ x∈xs,MkRt D w 6 x) (hn:n≤4398046511104):
 Calls Tryz.prog 31 #[v] w fun e w'=>e= .returned (.bool true)∧Below w.heap.size w w':=by
 rcases hown.2 with ⟨rfl,rfl⟩|⟨g,cap,cur,rfl,e1,e2,e3,e4,e5,e6⟩
 · exact (w_keptSpans0 w).mono fun e w' ⟨h1,h2⟩=>⟨h1,by rw [h2];exact Below.refl _ _⟩
 · have hlen:xs.length=n:=by have:=hown.1;omega
   have hgl:g<w.heap.size:=(Array.getElem?_eq_some_iff.1 e2).1
   have hcell:∀ k,(hk:k<xs.length)→w.cell? ⟨g,k,none⟩=some xs[k]:=fun k hk=>by
    have h1:w.cell? ⟨g,k,none⟩=cur[k]? :=cell_of_row _ _ _ _ _ _ e2;have h2:xs[k]? =some xs[k]:=List.getElem?_eq_getElem hk;rw [h1];rw [← h2]
    conv=>rhs;rw [← e6]
    rw [List.getElem?_take,if_pos (by omega),Array.getElem?_toList]
   have HCL:=hQz hcell;have HM:=hQz hm;have HLN:=hQz hlen;clear hown e1 e2 e4 e5 e6 hcell hm hlen;go_enter Tryz.func31,Tryz.ntmps31;go_wp2_with fail
   go_loopw [3] (fun i wr=>∃ k:Nat,k≤n∧i= .int .i64 (k:Int)∧Hid (Below w.heap.size w wr)) (fun i _=>n-(intOf i).toNat)
   case atStart=>exact ⟨0,Nat.zero_le _,rfl,Below.refl _ _⟩
   case round=>
    obtain ⟨k,hk,rfl,HB⟩:=hrel;by_cases hlt:k<n
    · have hl1:(k:Int)<(n:Int):=by omega
      have hl0:(0:Int)≤(k:Int):=by omega
      have hkl:k<xs.length:=by rw [HLN.out];exact hlt
      have c0:=(HB.out.cell (p:=⟨g,k,none⟩) hgl).trans (HCL.out k hkl);obtain ⟨q,P,cp,hx,f2,f3,hql,hmk⟩:=(HM.out _ (List.getElem_mem hkl)).at;rw [hx] at c0;have HMK:=hQz hmk;clear hx hmk hkl;go_wp2_with fail
      go_loopw [5] (fun i wr=>∃ m:Nat,m≤16∧i= .int .i64 (m:Int)∧Hid (Below w.heap.size w wr)) (fun i _=>16-(intOf i).toNat)
      case atStart=>exact ⟨0,Nat.zero_le _,rfl,HB⟩
      case round=>
       clear HB c0;obtain ⟨m,hm,rfl,HB⟩:=hrel;by_cases hlt2:m<16
       · have hm1:(m:Int)<16:=by omega
         have hm0:(0:Int)≤(m:Int):=by omega
         have i1:(0:Int)≤(P:Int)+(m:Int):=by omega
         have i2:(P:Int)+(m:Int)<(P:Int)+16:=by omega
         have i3:(P:Int)≤1099511627776:=by omega
         have i4:((P:Int)+(m:Int)).toNat=P+m:=by omega
         obtain ⟨cs,hcs,hce⟩:=HMK.out m hlt2;have hks:(wbL m).size≤140737488355328:=by show 8≤140737488355328;decide
         have HC:=hQz (fun u=>w_lmarkSp m u (by omega));have e0:cs=[.string (wbL m),.string ⟨#[]⟩]:=hcs;have k0:w.cell? ⟨q,(P+m)*2,none⟩=some (.string (wbL m)):=hce 0 _ (by rw [e0];rfl);have k1:w.cell? ⟨q,(P+m)*2+1,none⟩=some (.string ⟨#[]⟩):=hce 1 _ (by rw [e0];rfl);clear e0 hcs hce;generalize wbL m=key at HC hks k0;have HK:=hQz (And.intro k0 (k1));clear k0 k1;go_wp2_with fail;refine (HC.out _).mono ?_;rintro e w4 ⟨rfl,hb4⟩;have hB4:Below w.heap.size w w4:=HB.out.trans (hb4.mono HB.out.size);obtain ⟨W5,hW5⟩:∃ W5,w4.alloc (.cells #[.string key,.string ⟨#[]⟩] 83)=W5:=⟨_,rfl⟩;have hb5:Below w4.heap.size w4 W5:=by rw [← hW5];exact q05 w4 _
         have hbx:W5.heap[w4.heap.size]? =some (.cells #[.string key,.string ⟨#[]⟩] 83 (0,0)):=by rw [← hW5];exact heap_alloc_new w4 _
         have hB5:Below w.heap.size w W5:=hB4.trans (hb5.mono hB4.size);have HB5:=hQz hB5;have HSM:=hQz (fun (d:Nat) (os:Array Obj)=>w_mkSpan key (grow (redrawn W5 d) os));obtain ⟨k0,k1⟩:=HK.out;obtain ⟨z0,z1,_⟩:=boxT2 hbx;have R0:=fun d os=>cell_regrown ((hB5.cell (p:=⟨q,(P+m)*2,none⟩) hql).trans k0) d os;have R1:=fun d os=>cell_regrown ((hB5.cell (p:=⟨q,(P+m)*2+1,none⟩) hql).trans k1) d os;have S0:=fun d os=>cell_regrown z0 d os;have S1:=fun d os=>cell_regrown z1 d os;have HW5:=hQz hW5;clear hb4 HC HK hb5 hbx hB4 hB5 k0 k1 z0 z1 hW5;go_wp2_with fail;rw [HW5.out];refine wp_region_quiet_below (by kernel_rfl) (by kernel_rfl) ?_
         repeat (go_big_quiet_step (exact Calls.regrown_of (HSM.out _ _)))
         refine wpQuiet_nil ?_;intro wz hw'
         have HBz:Hid (Below w.heap.size w wz):=by
          obtain ⟨⟨dq,osq⟩,rfl⟩:=hw';exact HB5.out.trans ((below_regrown W5 dq osq).mono HB5.out.size)
         clear hw';go_wp2_with fail;go_roundw
         case rel=>exact ⟨m+1,by omega,by go_num,HBz⟩
         case measure=>simp [intOf];omega
       · have hm1:¬ (m:Int)<16:=by omega
         go_wp2_with fail;go_roundw
         case rel=>exact ⟨k+1,by omega,by go_num,HB⟩
         case measure=>simp [intOf];omega
    · have hl1:¬ (k:Int)<(n:Int):=by omega
      go_wp2_with fail;go_ret;exact ⟨rfl,HB.out⟩
end Go.Proofs.YtnokkmiaeacogaaGreat
