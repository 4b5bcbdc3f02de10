import Derived.Test.YtbpopnafcpfifaaGreatDoorU43
import Derived.Test.YtbpopnafcpfifaaGreatDoorU30
import Derived.Test.YtbpopnafcpfifaaGreatDoorU25
import Derived.Test.YtbpopnafcpfifaaGreatDoorU31
import Derived.Test.YtbpopnafcpfifaaGreatDoorU20
import Derived.Test.YtbpopnafcpfifaaGreatDoorU16
import Derived.Test.YtbpopnafcpfifaaGreatDoorU2
set_option linter.unusedVariables false
set_option linter.unusedSimpArgs false
namespace Go.Proofs.YtbpopnafcpfifaaGreatDoor
open Go.RowKit Go.Shelf
attribute [local go_sem] Oper.semAt_some
set_option maxRecDepth 100000
set_option maxHeartbeats 12800000
end Go.Proofs.YtbpopnafcpfifaaGreatDoor
namespace Go.Proofs.YtbpopnafcpfifaaGreatDoor
open Go.RowKit Go.Shelf Go.Sort
attribute [local go_sem] Oper.semAt_some
set_option maxRecDepth 100000
set_option maxHeartbeats 12800000
theorem inA_shape {w:World} {h:Nat} {A:NT} {v:Value} (hA:InA w h A v):∃ (aop aat avk:Int) (atx avn avx:ByteArray) (aio ayo ano ako:Option Addr) (avi aic avy ayc ann anc akn akc:Nat),v= .agg #[.int .i64 aop,.int .i64 aat,.string atx,.int .i64 avk,.string avn,.string avx,.slice aio avi aic,.slice ayo avy ayc,.slice ano ann anc,.slice ako akn akc]:=by
 cases h with
 | zero=>exact hA.elim
 | succ h=>
  obtain ⟨io,ic,yo,yc,no,nc,ko,kc,e,_⟩:=hA;exact ⟨_,_,_,_,_,_,_,_,_,_,_,_,_,_,_,_,_,_,e⟩
theorem nat_box {w:World} {h:Nat} {A:NT} {c:Fin 10→Value} {g:Nat} {t:TypeId} (hb:w.heap[g]? =some (.cells #[c 0,c 1,c 2,c 3,c 4,c 5,c 6,c 7,c 8,c 9] t (0,0))) (hA:InA w h A (ndV c)):NAt w h A g 0:=by
 obtain ⟨e0,e1,e2,e3,e4,e5,e6,e7,e8,e9⟩:=q00 hb;refine ⟨c,fun j=> ?_,hA⟩;rw [Nat.zero_add]
 match j with
 | 0=>exact e0
 | 1=>exact e1
 | 2=>exact e2
 | 3=>exact e3
 | 4=>exact e4
 | 5=>exact e5
 | 6=>exact e6
 | 7=>exact e7
 | 8=>exact e8
 | 9=>exact e9
def c10 (c0 c1 c2 c3 c4 c5 c6 c7 c8 c9:Value):Fin 10→Value:=fun j=>match j with
 | 0=>c0
 | 1=>c1
 | 2=>c2
 | 3=>c3
 | 4=>c4
 | 5=>c5
 | 6=>c6
 | 7=>c7
 | 8=>c8
 | 9=>c9
structure B1 (w:World) (ca:Array Value) (t:TypeId) (W:World):Prop where
 below:Below w.heap.size w W
 lt:w.heap.size<W.heap.size
 a:W.heap[w.heap.size]? =some (.cells ca t (0,0))
theorem B1.new {w W:World} {ca:Array Value} {t:TypeId} (h:w.alloc (.cells ca t)=W):B1 w ca t W:=by
 subst h;exact ⟨q0a w _,by simp,heap_alloc_new w _⟩
theorem B1.keep {w W W':World} {ca:Array Value} {t:TypeId} (h:B1 w ca t W) (hb:Below W.heap.size W W'):B1 w ca t W':=
 ⟨h.below.trans (hb.mono h.below.size),Nat.lt_of_lt_of_le h.lt hb.size,(hb.block _ h.lt).trans h.a⟩
theorem B1.ca {w W:World} {ca:Array Value} {t:TypeId} (h:B1 w ca t W) {j:Nat} {v:Value} (e:ca[j]? =some v):W.cell? ⟨w.heap.size,j,none⟩=some v:=by rw [cell_of_row _ _ _ _ _ _ h.a];exact e
def mfB (op m:Int):Bool:=
 if op=1∨op=2∨op=6∨op=35 then (m==0) else
 if op=3 then (decide (3≤m)&&(m%2==1)) else
 if op=4 then (decide (m≤1)) else
 if op=5 then (m%2==0) else
 if op=9∨op=11∨op=34 then (m==1) else
 if op=10 then (m==1||m==2) else
 if op=8∨op=28∨op=30 then (m==3) else
 if op=31 then (m==3||m==4) else
 if op=33 then (true) else
 if op=7∨op=29∨op=32 then (m==2) else
 (m==2&&((decide (12≤op)&&decide (op≤27))||(decide (36≤op)&&decide (op≤43))))
theorem w_manyFit (op:Int) (n:Nat) (hn:n≤140737488355328) (w:World):Calls Tryz.prog 51 #[.int .i64 op,.int .i64 (n:Int)] w fun e w'=>e= .returned (.bool (mfB op (n:Int)))∧w'=w:=by
 obtain ⟨R,HR⟩:∃ R,Hid (mfB op (n:Int)=R):=⟨_,rfl⟩;rw [HR.out];have h0:(0:Int)≤(n:Int):=by omega
 by_cases h1:op=1
 · subst h1;go_enter Tryz.func51,Tryz.ntmps51;go_wp2_with fail;go_ret;exact ⟨by rw [← HR.out];simp [mfB],rfl⟩
 have b1:(op==1)=false:=by rw [bqZ];exact h1
 by_cases h2:op=2
 · subst h2;go_enter Tryz.func51,Tryz.ntmps51;go_wp2_with fail;go_ret;exact ⟨by rw [← HR.out];simp [mfB],rfl⟩
 have b2:(op==2)=false:=by rw [bqZ];exact h2
 by_cases h6:op=6
 · subst h6;go_enter Tryz.func51,Tryz.ntmps51;go_wp2_with fail;go_ret;exact ⟨by rw [← HR.out];simp [mfB],rfl⟩
 have b6:(op==6)=false:=by rw [bqZ];exact h6
 by_cases h35:op=35
 · subst h35;go_enter Tryz.func51,Tryz.ntmps51;go_wp2_with fail;go_ret;exact ⟨by rw [← HR.out];simp [mfB],rfl⟩
 have b35:(op==35)=false:=by rw [bqZ];exact h35
 by_cases h3:op=3
 · subst h3;by_cases hm:(3:Int)≤(n:Int)
   · go_enter Tryz.func51,Tryz.ntmps51;go_wp2_with fail;go_ret;exact ⟨by rw [← HR.out];simp [mfB,hm],rfl⟩
   · have hm2:decide ((3:Int)≤(n:Int))=false:=by rw [decide_eq_false_iff_not];exact hm
     go_enter Tryz.func51,Tryz.ntmps51;go_wp2_with fail;go_ret;exact ⟨by rw [← HR.out];simp only [mfB,hm2];rfl,rfl⟩
 have b3:(op==3)=false:=by rw [bqZ];exact h3
 by_cases h4:op=4
 · subst h4;go_enter Tryz.func51,Tryz.ntmps51;go_wp2_with fail;go_ret;exact ⟨by rw [← HR.out];simp [mfB],rfl⟩
 have b4:(op==4)=false:=by rw [bqZ];exact h4
 by_cases h5:op=5
 · subst h5;go_enter Tryz.func51,Tryz.ntmps51;go_wp2_with fail;go_ret;exact ⟨by rw [← HR.out];simp [mfB],rfl⟩
 have b5:(op==5)=false:=by rw [bqZ];exact h5
 by_cases h9:op=9
 · subst h9;go_enter Tryz.func51,Tryz.ntmps51;go_wp2_with fail;go_ret;exact ⟨by rw [← HR.out];simp [mfB],rfl⟩
 have b9:(op==9)=false:=by rw [bqZ];exact h9
 by_cases h11:op=11
 · subst h11;go_enter Tryz.func51,Tryz.ntmps51;go_wp2_with fail;go_ret;exact ⟨by rw [← HR.out];simp [mfB],rfl⟩
 have b11:(op==11)=false:=by rw [bqZ];exact h11
 by_cases h34:op=34
 · subst h34;go_enter Tryz.func51,Tryz.ntmps51;go_wp2_with fail;go_ret;exact ⟨by rw [← HR.out];simp [mfB],rfl⟩
 have b34:(op==34)=false:=by rw [bqZ];exact h34
 by_cases h10:op=10
 · subst h10;by_cases hm:n=1
   · subst hm;go_enter Tryz.func51,Tryz.ntmps51;go_wp2_with fail;go_ret;exact ⟨by rw [← HR.out];rfl,rfl⟩
   · have hm2:((n:Int)==1)=false:=by rw [bqZ];omega
     go_enter Tryz.func51,Tryz.ntmps51;go_wp2_with fail;go_ret;exact ⟨by rw [← HR.out];simp [mfB,hm2],rfl⟩
 have b10:(op==10)=false:=by rw [bqZ];exact h10
 by_cases h8:op=8
 · subst h8;go_enter Tryz.func51,Tryz.ntmps51;go_wp2_with fail;go_ret;exact ⟨by rw [← HR.out];simp [mfB],rfl⟩
 have b8:(op==8)=false:=by rw [bqZ];exact h8
 by_cases h28:op=28
 · subst h28;go_enter Tryz.func51,Tryz.ntmps51;go_wp2_with fail;go_ret;exact ⟨by rw [← HR.out];simp [mfB],rfl⟩
 have b28:(op==28)=false:=by rw [bqZ];exact h28
 by_cases h30:op=30
 · subst h30;go_enter Tryz.func51,Tryz.ntmps51;go_wp2_with fail;go_ret;exact ⟨by rw [← HR.out];simp [mfB],rfl⟩
 have b30:(op==30)=false:=by rw [bqZ];exact h30
 by_cases h31:op=31
 · subst h31;by_cases hm:n=3
   · subst hm;go_enter Tryz.func51,Tryz.ntmps51;go_wp2_with fail;go_ret;exact ⟨by rw [← HR.out];rfl,rfl⟩
   · have hm2:((n:Int)==3)=false:=by rw [bqZ];omega
     go_enter Tryz.func51,Tryz.ntmps51;go_wp2_with fail;go_ret;exact ⟨by rw [← HR.out];simp [mfB,hm2],rfl⟩
 have b31:(op==31)=false:=by rw [bqZ];exact h31
 by_cases h33:op=33
 · subst h33;go_enter Tryz.func51,Tryz.ntmps51;go_wp2_with fail;go_ret;exact ⟨by rw [← HR.out];simp [mfB],rfl⟩
 have b33:(op==33)=false:=by rw [bqZ];exact h33
 by_cases h7:op=7
 · subst h7;go_enter Tryz.func51,Tryz.ntmps51;go_wp2_with fail;go_ret;exact ⟨by rw [← HR.out];simp [mfB],rfl⟩
 have b7:(op==7)=false:=by rw [bqZ];exact h7
 by_cases h29:op=29
 · subst h29;go_enter Tryz.func51,Tryz.ntmps51;go_wp2_with fail;go_ret;exact ⟨by rw [← HR.out];simp [mfB],rfl⟩
 have b29:(op==29)=false:=by rw [bqZ];exact h29
 by_cases h32:op=32
 · subst h32;go_enter Tryz.func51,Tryz.ntmps51;go_wp2_with fail;go_ret;exact ⟨by rw [← HR.out];simp [mfB],rfl⟩
 have b32:(op==32)=false:=by rw [bqZ];exact h32
 by_cases hm:n=2
 · subst hm;have HD:Hid (mfB op 2=((decide (12≤op)&&decide (op≤27))||(decide (36≤op)&&decide (op≤43)))):=by show _=_;simp [mfB,h1,h2,h6,h35,h3,h4,h5,h9,h11,h34,h10,h8,h28,h30,h31,h33,h7,h29,h32]
   clear h1 h2 h6 h35 h3 h4 h5 h9 h11 h34 h10 h8 h28 h30 h31 h33 h7 h29 h32;by_cases c1:(12:Int)≤op
   · have d1:decide ((12:Int)≤op)=true:=by rw [decide_eq_true_iff];exact c1
     by_cases c2:op≤(27:Int)
     · have d2:decide (op≤(27:Int))=true:=by rw [decide_eq_true_iff];exact c2
       go_enter Tryz.func51,Tryz.ntmps51;go_wp2_with fail;go_ret;exact ⟨by rw [← HR.out];show Ending.returned _=Ending.returned (.bool (mfB op 2));rw [HD.out,d1,d2];rfl,rfl⟩
     · have d2:decide (op≤(27:Int))=false:=by rw [decide_eq_false_iff_not];exact c2
       by_cases c3:(36:Int)≤op
       · have d3:decide ((36:Int)≤op)=true:=by rw [decide_eq_true_iff];exact c3
         by_cases c4:op≤(43:Int)
         · have d4:decide (op≤(43:Int))=true:=by rw [decide_eq_true_iff];exact c4
           go_enter Tryz.func51,Tryz.ntmps51;go_wp2_with fail;go_ret;exact ⟨by rw [← HR.out];show Ending.returned _=Ending.returned (.bool (mfB op 2));rw [HD.out,d1,d2,d3,d4];rfl,rfl⟩
         · have d4:decide (op≤(43:Int))=false:=by rw [decide_eq_false_iff_not];exact c4
           go_enter Tryz.func51,Tryz.ntmps51;go_wp2_with fail;go_ret;exact ⟨by rw [← HR.out];show Ending.returned _=Ending.returned (.bool (mfB op 2));rw [HD.out,d1,d2,d3,d4];rfl,rfl⟩
       · have d3:decide ((36:Int)≤op)=false:=by rw [decide_eq_false_iff_not];exact c3
         go_enter Tryz.func51,Tryz.ntmps51;go_wp2_with fail;go_ret;exact ⟨by rw [← HR.out];show Ending.returned _=Ending.returned (.bool (mfB op 2));rw [HD.out,d1,d2,d3];rfl,rfl⟩
   · have d1:decide ((12:Int)≤op)=false:=by rw [decide_eq_false_iff_not];exact c1
     have d3:decide ((36:Int)≤op)=false:=by rw [decide_eq_false_iff_not];omega
     go_enter Tryz.func51,Tryz.ntmps51;go_wp2_with fail;go_ret;exact ⟨by rw [← HR.out];show Ending.returned _=Ending.returned (.bool (mfB op 2));rw [HD.out,d1,d3];rfl,rfl⟩
 · have hm2:((n:Int)==2)=false:=by rw [bqZ];omega
   have HD:Hid (mfB op (n:Int)=false):=by show _=_;simp [mfB,hm2,h1,h2,h6,h35,h3,h4,h5,h9,h11,h34,h10,h8,h28,h30,h31,h33,h7,h29,h32]
   clear h1 h2 h6 h35 h3 h4 h5 h9 h11 h34 h10 h8 h28 h30 h31 h33 h7 h29 h32;go_enter Tryz.func51,Tryz.ntmps51;go_wp2_with fail;go_ret;exact ⟨by rw [← HR.out];rw [HD.out];rfl,rfl⟩
def vt0:VT:= .mk 0 .empty .empty [] []
def nn0:NT:= .mk 0 0 .empty vt0 [] []
theorem inH_0 (w:World) (h:Nat):InH w (h+1) vt0 (.agg #[.int .i64 0,.string ⟨#[]⟩,.string ⟨#[]⟩,.slice none 0 0,.slice none 0 0]):=
 ⟨none,0,none,0,rfl,by decide,by decide,Nat.zero_le _,Nat.zero_le _,Nat.le_refl _,Nat.le_refl _,fun k hk=>(by cases hk),⟨fun h=>absurd h (by show ¬ 0<0;omega)⟩,fun h=>absurd h (by show ¬ 0<0;omega)⟩
theorem VAt.up {w:World} {h:Nat} {A:VT} {g o:Nat} (hv:VAt w h A g o):VAt w (h+1) A g o:=by
 obtain ⟨v0,v1,v2,v3,v4,c,hi⟩:=hv;exact ⟨v0,v1,v2,v3,v4,c,hi.up⟩
theorem w_isZero (h:Nat) (V:VT) (g o:Nat) (w:World) (hV:VAt w h V g o):Calls Tryz.prog 54 #[.pointer (some ⟨g,o,none⟩)] w fun e w'=>e= .returned (.bool (sq V vt0))∧Below w.heap.size w w':=by
 obtain ⟨W1,hW1⟩:∃ W1,w.alloc (.cells #[.int .i64 0,.string ⟨#[]⟩,.string ⟨#[]⟩,.slice none 0 0,.slice none 0 0] 25)=W1:=⟨_,rfl⟩;have HX:=hQz (B1.new hW1)
 have HC:Hid (Calls Tryz.prog 80 #[.pointer (some ⟨g,o,none⟩),.pointer (some ⟨w.heap.size,0,none⟩)] W1 fun e w'=>e= .returned (.bool (sq V vt0))∧Below W1.heap.size W1 w'):=w_alike (h+1) V vt0 g o _ 0 W1 (hV.keep HX.out.below).up
  ⟨_,_,_,_,_,⟨HX.out.ca (j:=0) rfl,HX.out.ca (j:=1) rfl,HX.out.ca (j:=2) rfl,HX.out.ca (j:=3) rfl,HX.out.ca (j:=4) rfl⟩,inH_0 W1 h⟩
 generalize sq V vt0=r at *;clear hV;go_enter Tryz.func54,Tryz.ntmps54;go_wp2_with fail;refine HC.out.mono ?_;rintro e w2 ⟨rfl,hb2⟩;have HX2:=hQz (HX.out.keep hb2);clear hb2;go_wp2_with fail;go_ret;exact ⟨rfl,HX2.out.below⟩
theorem noneIff {A:NT}:noA A=noA nn0↔A.op=0∧A.text= .empty∧A.value=vt0∧A.names=[]∧A.kids=[]:=by
 rw [noA_eq];constructor
 · rintro ⟨h1,h2,h3,h4,h5⟩;refine ⟨h1,h2,h3,h4,?_⟩;have:=noAs_len_eq h5;exact List.eq_nil_of_length_eq_zero this
 · rintro ⟨h1,h2,h3,h4,h5⟩;exact ⟨h1,h2,h3,h4,by rw [h5];rfl⟩
theorem ne_bytes {x:ByteArray} (h:¬ x= .empty):x.toList.isEmpty=false∧(x.toList==[])=false∧¬ x.toList=[]:=by
 have h1:¬ x.toList=[]:=fun e=>h (by
  rw [Lib.toList_data] at e;exact ByteArray.ext (Array.toList_inj.1 (by rw [e];rfl)))
 refine ⟨?_,?_,h1⟩
 · cases hx:x.toList with
   | nil=>exact absurd hx h1
   | cons a l=>rfl
 · rw [bqZ];exact h1
theorem w_isNone (h:Nat) (A:NT) (g o:Nat) (w:World) (hA:NAt w (h+1) A g o):Calls Tryz.prog 78 #[.pointer (some ⟨g,o,none⟩)] w fun e w'=>e= .returned (.bool (sq (noA A) (noA nn0)))∧Below w.heap.size w w':=by
 obtain ⟨aio,aic,ayo,ayc,ano,anc,ako,akc,HA⟩:=hA.open_;obtain ⟨R,HR⟩:∃ R,Hid (sq (noA A) (noA nn0)=R):=⟨_,rfl⟩;rw [HR.out];have HEq:Hid (noA A=noA nn0↔A.op=0∧A.text= .empty∧A.value=vt0∧A.names=[]∧A.kids=[]):=noneIff;have HV:Hid (Calls Tryz.prog 54 #[.pointer (some ⟨g,o+3,none⟩)] w fun e w'=>e= .returned (.bool (sq A.value vt0))∧Below w.heap.size w w'):=w_isZero (h+1) _ _ _ w HA.val;have c0:=HA.c0;have c2:=HA.c2;have HP:=hQz (And.intro HA.c8 HA.c9);clear HA hA;obtain ⟨aop,aat,atx,aV,aN,aI⟩:=A;simp only [NT.op,NT.text,NT.value,NT.names,NT.kids] at *;by_cases hk:aop=0
 rotate_left
 · have HT:Hid (R=false):=HR.out.symm.trans (q2l (fun e=>hk (HEq.out.1 e).1));have g1:(aop==0)=false:=by rw [bqZ];exact hk
   go_enter Tryz.func78,Tryz.ntmps78;go_wp2_with fail;go_ret;exact ⟨by rw [HT.out];rfl,Below.refl _ _⟩
 subst hk;by_cases hx:atx= .empty
 rotate_left
 · have HT:Hid (R=false):=HR.out.symm.trans (q2l (fun e=>hx (HEq.out.1 e).2.1));obtain ⟨g2,g3,g4⟩:=ne_bytes hx;clear hx;go_enter Tryz.func78,Tryz.ntmps78;go_wp2_with fail;go_ret;exact ⟨by rw [HT.out];rfl,Below.refl _ _⟩
 subst hx;by_cases hv:aV=vt0
 rotate_left
 · have HT:Hid (R=false):=HR.out.symm.trans (q2l (fun e=>hv (HEq.out.1 e).2.2.1));rw [q2l hv] at HV;go_enter Tryz.func78,Tryz.ntmps78;go_wp2_with fail;refine HV.out.mono ?_;rintro e w2 ⟨rfl,hb2⟩;have c8:=(hb2.cell (p:=⟨g,o+8,none⟩) (block_lt_of_cell HP.out.1)).trans HP.out.1;have c9:=(hb2.cell (p:=⟨g,o+9,none⟩) (block_lt_of_cell HP.out.2)).trans HP.out.2;have HB2:=hQz hb2;clear hb2;go_wp2_with fail;go_ret;exact ⟨by rw [HT.out];rfl,HB2.out⟩
 rw [q2q.2 hv] at HV;have HVV:=hQz hv;clear hv;by_cases hl:aN.length=0
 rotate_left
 · have HT:Hid (R=false):=HR.out.symm.trans (q2l (fun e=>hl (by rw [(HEq.out.1 e).2.2.2.1];rfl)));have g5:((aN.length:Int)==0)=false:=by rw [bqZ];omega
   go_enter Tryz.func78,Tryz.ntmps78;go_wp2_with fail;refine HV.out.mono ?_;rintro e w2 ⟨rfl,hb2⟩;have c8:=(hb2.cell (p:=⟨g,o+8,none⟩) (block_lt_of_cell HP.out.1)).trans HP.out.1;have c9:=(hb2.cell (p:=⟨g,o+9,none⟩) (block_lt_of_cell HP.out.2)).trans HP.out.2;have HB2:=hQz hb2;clear hb2;go_wp2_with fail;go_ret;exact ⟨by rw [HT.out];rfl,HB2.out⟩
 have HN:Hid (aN=[]):=List.eq_nil_of_length_eq_zero hl;rw [hl] at HP;clear hl;by_cases hl:aI.length=0
 rotate_left
 · have HT:Hid (R=false):=HR.out.symm.trans (q2l (fun e=>hl (by rw [(HEq.out.1 e).2.2.2.2];rfl)));have g5:((aI.length:Int)==0)=false:=by rw [bqZ];omega
   go_enter Tryz.func78,Tryz.ntmps78;go_wp2_with fail;refine HV.out.mono ?_;rintro e w2 ⟨rfl,hb2⟩;have c8:=(hb2.cell (p:=⟨g,o+8,none⟩) (block_lt_of_cell HP.out.1)).trans HP.out.1;have c9:=(hb2.cell (p:=⟨g,o+9,none⟩) (block_lt_of_cell HP.out.2)).trans HP.out.2;have HB2:=hQz hb2;clear hb2;go_wp2_with fail;go_ret;exact ⟨by rw [HT.out];rfl,HB2.out⟩
 have HI:Hid (aI=[]):=List.eq_nil_of_length_eq_zero hl;rw [hl] at HP;clear hl;have HT:Hid (R=true):=HR.out.symm.trans (q2q.2 (HEq.out.2 ⟨by first|rfl|trivial,by first|rfl|trivial,HVV.out,HN.out,HI.out⟩));go_enter Tryz.func78,Tryz.ntmps78;go_wp2_with fail;refine HV.out.mono ?_;rintro e w2 ⟨rfl,hb2⟩;have c8:=(hb2.cell (p:=⟨g,o+8,none⟩) (block_lt_of_cell HP.out.1)).trans HP.out.1;have c9:=(hb2.cell (p:=⟨g,o+9,none⟩) (block_lt_of_cell HP.out.2)).trans HP.out.2;have HB2:=hQz hb2;clear hb2;go_wp2_with fail;go_ret;exact ⟨by rw [HT.out];rfl,HB2.out⟩
def nmO (op:Int):Bool:=op==6||op==35||op==29||op==30||op==31||op==32||op==33||op==34
def ttB (op:Int) (tx:ByteArray):Bool:=if nmO op then q0r tx.data.toList else tx.data.toList.isEmpty
theorem empty_l {x:ByteArray}:x.data.toList.isEmpty=true↔x= .empty:=by
 constructor
 · intro h;exact ByteArray.ext (Array.toList_inj.1 (by rw [List.isEmpty_iff.1 h];rfl))
 · rintro rfl;rfl
theorem w_textFits (h:Nat) (A:NT) (g o:Nat) (w:World) (hA:NAt w (h+1) A g o):Calls Tryz.prog 23 #[.pointer (some ⟨g,o,none⟩)] w fun e w'=>e= .returned (.bool (ttB A.op A.text))∧Below w.heap.size w w':=by
 obtain ⟨aio,aic,ayo,ayc,ano,anc,ako,akc,HA⟩:=hA.open_;have HPl:Hid (Calls Tryz.prog 53 #[.string A.text] w fun e w'=>e= .returned (.bool (q0r A.text.data.toList))∧w'=w):=w_Plain A.text w (Nat.le_trans HA.tx (by decide));have c0:=HA.c0;have c2:=HA.c2;clear HA hA;obtain ⟨aop,aat,atx,aV,aN,aI⟩:=A;simp only [NT.op,NT.text] at *;obtain ⟨R,HR⟩:∃ R,Hid (ttB aop atx=R):=⟨_,rfl⟩;rw [HR.out];by_cases h6:aop=6
 · subst h6;have HT:Hid (R=q0r atx.data.toList):=HR.out.symm.trans (by unfold ttB;rw [if_pos (by decide)]);generalize q0r atx.data.toList=r at *;go_enter Tryz.func23,Tryz.ntmps23;go_wp2_with fail;refine HPl.out.mono ?_;rintro e w2 ⟨rfl,hw2⟩;obtain rfl:=hw2.symm;go_wp2_with fail;go_ret;exact ⟨by rw [HT.out];rfl,Below.refl _ _⟩
 have b6:(aop==6)=false:=by rw [bqZ];exact h6
 by_cases h35:aop=35
 · subst h35;have HT:Hid (R=q0r atx.data.toList):=HR.out.symm.trans (by unfold ttB;rw [if_pos (by decide)]);generalize q0r atx.data.toList=r at *;go_enter Tryz.func23,Tryz.ntmps23;go_wp2_with fail;refine HPl.out.mono ?_;rintro e w2 ⟨rfl,hw2⟩;obtain rfl:=hw2.symm;go_wp2_with fail;go_ret;exact ⟨by rw [HT.out];rfl,Below.refl _ _⟩
 have b35:(aop==35)=false:=by rw [bqZ];exact h35
 by_cases h29:aop=29
 · subst h29;have HT:Hid (R=q0r atx.data.toList):=HR.out.symm.trans (by unfold ttB;rw [if_pos (by decide)]);generalize q0r atx.data.toList=r at *;go_enter Tryz.func23,Tryz.ntmps23;go_wp2_with fail;refine HPl.out.mono ?_;rintro e w2 ⟨rfl,hw2⟩;obtain rfl:=hw2.symm;go_wp2_with fail;go_ret;exact ⟨by rw [HT.out];rfl,Below.refl _ _⟩
 have b29:(aop==29)=false:=by rw [bqZ];exact h29
 by_cases h30:aop=30
 · subst h30;have HT:Hid (R=q0r atx.data.toList):=HR.out.symm.trans (by unfold ttB;rw [if_pos (by decide)]);generalize q0r atx.data.toList=r at *;go_enter Tryz.func23,Tryz.ntmps23;go_wp2_with fail;refine HPl.out.mono ?_;rintro e w2 ⟨rfl,hw2⟩;obtain rfl:=hw2.symm;go_wp2_with fail;go_ret;exact ⟨by rw [HT.out];rfl,Below.refl _ _⟩
 have b30:(aop==30)=false:=by rw [bqZ];exact h30
 by_cases h31:aop=31
 · subst h31;have HT:Hid (R=q0r atx.data.toList):=HR.out.symm.trans (by unfold ttB;rw [if_pos (by decide)]);generalize q0r atx.data.toList=r at *;go_enter Tryz.func23,Tryz.ntmps23;go_wp2_with fail;refine HPl.out.mono ?_;rintro e w2 ⟨rfl,hw2⟩;obtain rfl:=hw2.symm;go_wp2_with fail;go_ret;exact ⟨by rw [HT.out];rfl,Below.refl _ _⟩
 have b31:(aop==31)=false:=by rw [bqZ];exact h31
 by_cases h32:aop=32
 · subst h32;have HT:Hid (R=q0r atx.data.toList):=HR.out.symm.trans (by unfold ttB;rw [if_pos (by decide)]);generalize q0r atx.data.toList=r at *;go_enter Tryz.func23,Tryz.ntmps23;go_wp2_with fail;refine HPl.out.mono ?_;rintro e w2 ⟨rfl,hw2⟩;obtain rfl:=hw2.symm;go_wp2_with fail;go_ret;exact ⟨by rw [HT.out];rfl,Below.refl _ _⟩
 have b32:(aop==32)=false:=by rw [bqZ];exact h32
 by_cases h33:aop=33
 · subst h33;have HT:Hid (R=q0r atx.data.toList):=HR.out.symm.trans (by unfold ttB;rw [if_pos (by decide)]);generalize q0r atx.data.toList=r at *;go_enter Tryz.func23,Tryz.ntmps23;go_wp2_with fail;refine HPl.out.mono ?_;rintro e w2 ⟨rfl,hw2⟩;obtain rfl:=hw2.symm;go_wp2_with fail;go_ret;exact ⟨by rw [HT.out];rfl,Below.refl _ _⟩
 have b33:(aop==33)=false:=by rw [bqZ];exact h33
 by_cases h34:aop=34
 · subst h34;have HT:Hid (R=q0r atx.data.toList):=HR.out.symm.trans (by unfold ttB;rw [if_pos (by decide)]);generalize q0r atx.data.toList=r at *;go_enter Tryz.func23,Tryz.ntmps23;go_wp2_with fail;refine HPl.out.mono ?_;rintro e w2 ⟨rfl,hw2⟩;obtain rfl:=hw2.symm;go_wp2_with fail;go_ret;exact ⟨by rw [HT.out];rfl,Below.refl _ _⟩
 have b34:(aop==34)=false:=by rw [bqZ];exact h34
 have HD:Hid (R=atx.data.toList.isEmpty):=HR.out.symm.trans (by unfold ttB nmO;rw [b6,b35,b29,b30,b31,b32,b33,b34];rfl);clear h6 h35 h29 h30 h31 h32 h33 h34;by_cases hx:atx= .empty
 · subst hx;have HT:Hid (R=true):=HD.out;clear HD;go_enter Tryz.func23,Tryz.ntmps23;go_wp2_with fail;go_ret;exact ⟨by rw [HT.out];rfl,Below.refl _ _⟩
 · have HT:Hid (R=false):=HD.out.trans (by cases hb:atx.data.toList.isEmpty with
    | true=>exact absurd (empty_l.1 hb) hx
    | false=>rfl)
   obtain ⟨g2,g3,g4⟩:=ne_bytes hx;clear hx HD;go_enter Tryz.func23,Tryz.ntmps23;go_wp2_with fail;go_ret;exact ⟨by rw [HT.out];rfl,Below.refl _ _⟩
def pnB (k:ByteArray):Bool:=q0r (Lib.trimPrefix k.data.toList [36])
def nsB (op:Int) (ks:List ByteArray):Bool:=if op=32 then ks.all pnB else ks.isEmpty
theorem trim_le (l p:List UInt8):(Lib.trimPrefix l p).length≤l.length:=by
 unfold Lib.trimPrefix
 split
 · simp
 · exact Nat.le_refl _
theorem w_namesFit (h:Nat) (A:NT) (g o:Nat) (w:World) (hA:NAt w (h+1) A g o):Calls Tryz.prog 25 #[.pointer (some ⟨g,o,none⟩)] w fun e w'=>e= .returned (.bool (nsB A.op A.names))∧Below w.heap.size w w':=by
 obtain ⟨aio,aic,ayo,ayc,ano,anc,ako,akc,HA⟩:=hA.open_;have c0:=HA.c0;have c8:=HA.c8;have HK:=hQz HA.names;have hcap:=HA.nl.1;have hbig:=HA.nl.2.1;have HS:=hQz HA.nl.2.2;clear HA hA;obtain ⟨aop,aat,atx,aV,aN,aI⟩:=A;simp only [NT.op,NT.names] at *;obtain ⟨R,HR⟩:∃ R,Hid (nsB aop aN=R):=⟨_,rfl⟩;rw [HR.out];obtain ⟨N,hN⟩:∃ N,N=aN.length:=⟨_,rfl⟩;rw [← hN] at c8 hcap hbig;by_cases hk:aop=32
 · subst hk;have HR2:Hid (R=aN.all pnB):=HR.out.symm.trans (by unfold nsB;rw [if_pos rfl]);have HN:=hQz hN;clear hN HR;go_enter Tryz.func25,Tryz.ntmps25;go_wp2_with fail;clear c0 c8
   go_loopw [21] (fun i wr=>∃ k:Nat,k≤N∧i= .int .i64 (k:Int)∧wr=w∧Hid ((aN.take k).all pnB=true)) (fun i _=>N-(intOf i).toNat)
   case atStart=>exact ⟨0,Nat.zero_le _,rfl,rfl,rfl⟩
   case round=>
    obtain ⟨k,hk,rfl,rfl,HQ⟩:=hrel;by_cases hlt:k<N
    · have hl1:(k:Int)<(N:Int):=by omega
      have hl0:(0:Int)≤(k:Int):=by omega
      have hkx:k<aN.length:=by rw [← HN.out];exact hlt
      obtain ⟨b,off,e1,_,hr⟩:=HK.out.row (by omega);subst e1;have c:=hr k hkx;rw [getD_keyQ hkx] at c;have hsz:=HS.out _ (List.getElem_mem hkx)
      have HQ2:Hid (pnB aN[k]=true→(aN.take (k+1)).all pnB=true):=fun hp=>by
       rw [List.take_succ_eq_append_getElem hkx,List.all_append,HQ.out];simp [hp]
      have HNo:Hid (pnB aN[k]=false→aN.all pnB=false):=fun hp=>by
       rw [List.all_eq_false];exact ⟨aN[k],List.getElem_mem hkx,by rw [hp];decide⟩
      generalize aN[k]=x at *;clear hr hkx;have HT1:=hQz (Tryz.strings_TrimPrefix x ⟨#[36]⟩ wr)
      have HP1:Hid (Calls Tryz.prog 53 #[.string ⟨(Lib.trimPrefix x.data.toList [36]).toArray⟩] wr fun e w'=>e= .returned (.bool (pnB x))∧w'=wr):=w_Plain ⟨(Lib.trimPrefix x.data.toList [36]).toArray⟩ wr (by
       have h1:=trim_le x.data.toList [36];have h2:x.data.toList.length=x.size:=by rw [Array.length_toList];rfl
       show (Lib.trimPrefix x.data.toList [36]).toArray.size≤_;simp;omega)
      have HT1':Hid (Calls Tryz.prog 57 #[.string x,.string ⟨#[36]⟩] wr fun e w'=>e= .returned (.string ⟨(Lib.trimPrefix x.data.toList [36]).toArray⟩)∧w'=wr):=HT1.out;generalize (⟨(Lib.trimPrefix x.data.toList [36]).toArray⟩:ByteArray)=y at *;clear HT1 hsz;go_wp2_with fail;refine HT1'.out.mono ?_;rintro e w2 ⟨rfl,hw2⟩;obtain rfl:=hw2.symm;go_wp2_with fail;refine HP1.out.mono ?_;rintro e w2 ⟨rfl,hw2⟩;obtain rfl:=hw2.symm
      cases hp:pnB x with
      | true=>
       have HQ3:=hQz (HQ2.out hp);go_wp2_with fail;go_roundw
       case rel=>exact ⟨k+1,by omega,by go_num,by first|rfl|trivial,HQ3⟩
       case measure=>simp [intOf];omega
      | false=>
       have HT:Hid (R=false):=HR2.out.trans (HNo.out hp);go_wp2_with fail;go_ret;exact ⟨by rw [HT.out];rfl,Below.refl _ _⟩
    · have hl1:¬ (k:Int)<(N:Int):=by omega
      have HT:Hid (R=true):=by
       have e:=HQ.out;rw [List.take_of_length_le (by rw [← HN.out];omega)] at e;exact HR2.out.trans e
      go_wp2_with fail;go_ret;exact ⟨by rw [HT.out];rfl,Below.refl _ _⟩
 · have g1:(aop != 32)=true:=by simpa using hk
   have HR2:Hid (R=aN.isEmpty):=HR.out.symm.trans (by unfold nsB;rw [if_neg hk]);by_cases hz:N=0
   · have HT:Hid (R=true):=HR2.out.trans (by rw [List.isEmpty_iff];exact List.eq_nil_of_length_eq_zero (by omega));subst hz;clear hN;go_enter Tryz.func25,Tryz.ntmps25;go_wp2_with fail;go_ret;exact ⟨by rw [HT.out];rfl,Below.refl _ _⟩
   · have HT:Hid (R=false):=HR2.out.trans (by cases haN:aN with
      | nil=>rw [haN] at hN;exact absurd hN hz
      | cons=>rfl)
     have g2:((N:Int)==0)=false:=by rw [bqZ];omega
     clear hN;go_enter Tryz.func25,Tryz.ntmps25;go_wp2_with fail;go_ret;exact ⟨by rw [HT.out];rfl,Below.refl _ _⟩
noncomputable def vfB (h:Nat) (op:Int) (V:VT):Bool:=if op=2 then (if V.kind=0∨V.kind=1∨V.kind=2∨V.kind=4 then q2m h V else if V.kind=3 then (q2m h V&&decide (0≤Pl.cmpN V.num.data.toList [48])) else false) else sq V vt0
theorem w_valueFits (h:Nat) (A:NT) (g o:Nat) (w:World) (hA:NAt w (h+1) A g o):Calls Tryz.prog 24 #[.pointer (some ⟨g,o,none⟩)] w fun e w'=>e= .returned (.bool (vfB (h+1) A.op A.value))∧Below w.heap.size w w':=by
 obtain ⟨aio,aic,ayo,ayc,ano,anc,ako,akc,HA⟩:=hA.open_;have HV:Hid (Calls Tryz.prog 54 #[.pointer (some ⟨g,o+3,none⟩)] w fun e w'=>e= .returned (.bool (sq A.value vt0))∧Below w.heap.size w w'):=w_isZero (h+1) _ _ _ w HA.val;have c0:=HA.c0;have c3:=HA.c3;have c4:=HA.c4;have c5:=HA.c5;have c6:=HA.c6;have c7:=HA.c7;have HVa:=hQz HA.val;clear HA hA;obtain ⟨aop,aat,atx,⟨vk,vn,vx,vI,vK⟩,aN,aI⟩:=A;simp only [NT.op,NT.value,VT.kind,VT.num,VT.text,VT.items,VT.keys] at *;obtain ⟨R,HR⟩:∃ R,Hid (vfB (h+1) aop (VT.mk vk vn vx vI vK)=R):=⟨_,rfl⟩;rw [HR.out];by_cases hk:aop=2
 rotate_left
 · have g1:(aop != 2)=true:=by simpa using hk
   have HR2:Hid (R=sq (VT.mk vk vn vx vI vK) vt0):=HR.out.symm.trans (by unfold vfB;rw [if_neg hk]);generalize sq (VT.mk vk vn vx vI vK) vt0=r at *;go_enter Tryz.func24,Tryz.ntmps24;go_wp2_with fail;refine HV.out.mono ?_;rintro e w2 ⟨rfl,hb2⟩;have HB2:=hQz hb2;clear hb2;go_wp2_with fail;go_ret;exact ⟨by rw [HR2.out];rfl,HB2.out⟩
 subst hk;have HR2:Hid (R=(if vk=0∨vk=1∨vk=2∨vk=4 then q2m (h+1) (VT.mk vk vn vx vI vK) else if vk=3 then (q2m (h+1) (VT.mk vk vn vx vI vK)&&decide (0≤Pl.cmpN vn.data.toList [48])) else false)):=HR.out.symm.trans (by unfold vfB;rw [if_pos rfl];rfl);obtain ⟨v0,v1,v2,v3,v4,⟨p0,p1,p2,p3,p4⟩,hI⟩:=HVa.out;obtain rfl:=Option.some.inj (p0.symm.trans c3);obtain rfl:=Option.some.inj (p1.symm.trans c4);obtain rfl:=Option.some.inj (p2.symm.trans c5);obtain rfl:=Option.some.inj (p3.symm.trans c6);obtain rfl:=Option.some.inj (p4.symm.trans c7);clear p0 p1 p2 p3 p4;obtain ⟨W1,hW1⟩:∃ W1,w.alloc (.cells #[.int .i64 vk,.string vn,.string vx,.slice aio vI.length aic,.slice ayo vK.length ayc] 25)=W1:=⟨_,rfl⟩;have HX:=hQz (B1.new hW1);have HF:Hid (∀ u,Below w.heap.size w u→Calls Tryz.prog 55 #[.agg #[.int .i64 vk,.string vn,.string vx,.slice aio vI.length aic,.slice ayo vK.length ayc]] u fun e w'=>e= .returned (.bool (q2m (h+1) (VT.mk vk vn vx vI vK)))∧Below u.heap.size u w'):=fun u hu=>w_vFormed (h+1) _ _ u (hI.keep hu)
 have hvn:vn.size≤140737488355328:=by
  obtain ⟨_,_,_,_,_,q1,_⟩:=hI;exact q1
 have HCm:Hid (∀ u,Calls Tryz.prog 56 #[.string vn,.string ⟨#[48]⟩] u fun e w'=>e= .returned (.tuple #[.int .i64 (Pl.cmpN vn.data.toList [48]),.int .i64 (Pl.errN vn.data.toList [48])])∧Below u.heap.size u w'):=fun u=>w_Cmp vn ⟨#[48]⟩ u (by unfold maxLen;omega) (by unfold maxLen;decide);have x0:=HX.out.ca (j:=0) rfl;have x1:=HX.out.ca (j:=1) rfl;have x2:=HX.out.ca (j:=2) rfl;have x3:=HX.out.ca (j:=3) rfl;have x4:=HX.out.ca (j:=4) rfl;generalize q2m (h+1) (VT.mk vk vn vx vI vK)=ff at *;generalize Pl.cmpN vn.data.toList [48]=cc at *;generalize Pl.errN vn.data.toList [48]=ce at *;generalize vI.length=li at *;generalize vK.length=lk at *;clear hI hvn HV HR HVa;by_cases k0:vk=0
 · subst k0;have HT:Hid (R=ff):=HR2.out.trans (by rw [if_pos (by decide)]);go_enter Tryz.func24,Tryz.ntmps24;go_wp2_with fail;refine (HF.out _ HX.out.below).mono ?_;rintro e w2 ⟨rfl,hb2⟩;have HX2:=hQz (HX.out.keep hb2);clear hb2;go_wp2_with fail;go_ret;exact ⟨by rw [HT.out];rfl,HX2.out.below⟩
 have b0:(vk==0)=false:=by rw [bqZ];exact k0
 by_cases k1:vk=1
 · subst k1;have HT:Hid (R=ff):=HR2.out.trans (by rw [if_pos (by decide)]);go_enter Tryz.func24,Tryz.ntmps24;go_wp2_with fail;refine (HF.out _ HX.out.below).mono ?_;rintro e w2 ⟨rfl,hb2⟩;have HX2:=hQz (HX.out.keep hb2);clear hb2;go_wp2_with fail;go_ret;exact ⟨by rw [HT.out];rfl,HX2.out.below⟩
 have b1:(vk==1)=false:=by rw [bqZ];exact k1
 by_cases k2:vk=2
 · subst k2;have HT:Hid (R=ff):=HR2.out.trans (by rw [if_pos (by decide)]);go_enter Tryz.func24,Tryz.ntmps24;go_wp2_with fail;refine (HF.out _ HX.out.below).mono ?_;rintro e w2 ⟨rfl,hb2⟩;have HX2:=hQz (HX.out.keep hb2);clear hb2;go_wp2_with fail;go_ret;exact ⟨by rw [HT.out];rfl,HX2.out.below⟩
 have b2:(vk==2)=false:=by rw [bqZ];exact k2
 by_cases k4:vk=4
 · subst k4;have HT:Hid (R=ff):=HR2.out.trans (by rw [if_pos (by decide)]);go_enter Tryz.func24,Tryz.ntmps24;go_wp2_with fail;refine (HF.out _ HX.out.below).mono ?_;rintro e w2 ⟨rfl,hb2⟩;have HX2:=hQz (HX.out.keep hb2);clear hb2;go_wp2_with fail;go_ret;exact ⟨by rw [HT.out];rfl,HX2.out.below⟩
 have b4:(vk==4)=false:=by rw [bqZ];exact k4
 by_cases k3:vk=3
 · subst k3;have HT:Hid (R=(ff&&decide (0≤cc))):=HR2.out.trans (by rw [if_neg (by decide),if_pos rfl]);clear HR2;go_enter Tryz.func24,Tryz.ntmps24;go_wp2_with fail;refine (HCm.out _).mono ?_;rintro e w2 ⟨rfl,hb2⟩;have HX2:=hQz (HX.out.keep hb2);have y0:=HX2.out.ca (j:=0) rfl;have y1:=HX2.out.ca (j:=1) rfl;have y2:=HX2.out.ca (j:=2) rfl;have y3:=HX2.out.ca (j:=3) rfl;have y4:=HX2.out.ca (j:=4) rfl;clear hb2;go_wp2_with fail;refine (HF.out _ HX2.out.below).mono ?_;rintro e w3 ⟨rfl,hb3⟩;have HX3:=hQz (HX2.out.keep hb3);clear hb3
   cases ff with
   | true=>
    by_cases hc:(0:Int)≤cc
    · have hd:decide ((0:Int)≤cc)=true:=by rw [decide_eq_true_iff];exact hc
      go_wp2_with fail;go_ret;exact ⟨by rw [HT.out,hd];rfl,HX3.out.below⟩
    · have hd:decide ((0:Int)≤cc)=false:=by rw [decide_eq_false_iff_not];exact hc
      go_wp2_with fail;go_ret;exact ⟨by rw [HT.out,hd];rfl,HX3.out.below⟩
   | false=>
    go_wp2_with fail;go_ret;exact ⟨by rw [HT.out];rfl,HX3.out.below⟩
 have b3:(vk==3)=false:=by rw [bqZ];exact k3
 have HT:Hid (R=false):=HR2.out.trans (by rw [if_neg (by simp [k0,k1,k2,k4]),if_neg k3]);clear k0 k1 k2 k3 k4;go_enter Tryz.func24,Tryz.ntmps24;go_wp2_with fail;go_ret;exact ⟨by rw [HT.out];rfl,HX.out.below⟩
end Go.Proofs.YtbpopnafcpfifaaGreatDoor
