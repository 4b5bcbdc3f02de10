import Derived.Test.YtdjleoglphgdgaaGreatDoorM46
import Derived.Test.YtdjleoglphgdgaaGreatDoorM33
import Derived.Test.YtdjleoglphgdgaaGreatDoorM29
import Derived.Test.YtdjleoglphgdgaaGreatDoorM34
set_option linter.unusedVariables false
set_option linter.unusedSimpArgs false
namespace Go.Proofs.YtdjleoglphgdgaaGreatDoor
open Go.RowKit Go.Shelf
attribute [local go_sem] Oper.semAt_some
end Go.Proofs.YtdjleoglphgdgaaGreatDoor
namespace Go.Proofs.YtdjleoglphgdgaaGreatDoor
open Go.RowKit Go.Shelf Go.Sort
attribute [local go_sem] Oper.semAt_some
theorem inA_shape {w:World} {h:Nat} {A:NT} {v:Value} (hA:InA w h A v):∃ (aop aat avk:Int) (atx avn avx:ByteArray) (aio ayo ano ako:Option Addr) (avi aic avy ayc ann anc akn akc:Nat),v= .agg #[.int .i64 aop,.int .i64 aat,.string atx,.int .i64 avk,.string avn,.string avx,.slice aio avi aic,.slice ayo avy ayc,.slice ano ann anc,.slice ako akn akc]:=by
 cases h with
 | zero=>exact hA.elim
 | succ h=>
  obtain ⟨io,ic,yo,yc,no,nc,ko,kc,e,_⟩:=hA;exact ⟨_,_,_,_,_,_,_,_,_,_,_,_,_,_,_,_,_,_,e⟩
theorem nat_box {w:World} {h:Nat} {A:NT} {c:Fin 10→Value} {g:Nat} {t:TypeId} (hb:w.heap[g]? =some (.cells #[c 0,c 1,c 2,c 3,c 4,c 5,c 6,c 7,c 8,c 9] t (0,0))) (hA:InA w h A (ndV c)):NAt w h A g 0:=by
 obtain ⟨e0,e1,e2,e3,e4,e5,e6,e7,e8,e9⟩:=q00 hb;refine ⟨c,fun j=> ?_,hA⟩;rw [Nat.zero_add]
 match j with
 | 0=>exact e0
 | 1=>exact e1
 | 2=>exact e2
 | 3=>exact e3
 | 4=>exact e4
 | 5=>exact e5
 | 6=>exact e6
 | 7=>exact e7
 | 8=>exact e8
 | 9=>exact e9
def c10 (c0 c1 c2 c3 c4 c5 c6 c7 c8 c9:Value):Fin 10→Value:=fun j=>match j with
 | 0=>c0
 | 1=>c1
 | 2=>c2
 | 3=>c3
 | 4=>c4
 | 5=>c5
 | 6=>c6
 | 7=>c7
 | 8=>c8
 | 9=>c9
structure B1 (w:World) (ca:Array Value) (t:TypeId) (W:World):Prop where
 below:Below w.heap.size w W
 lt:w.heap.size<W.heap.size
 a:W.heap[w.heap.size]? =some (.cells ca t (0,0))
theorem B1.new {w W:World} {ca:Array Value} {t:TypeId} (h:w.alloc (.cells ca t)=W):B1 w ca t W:=by
 subst h;exact ⟨q0a w _,by simp,heap_alloc_new w _⟩
theorem B1.keep {w W W':World} {ca:Array Value} {t:TypeId} (h:B1 w ca t W) (hb:Below W.heap.size W W'):B1 w ca t W':=
 ⟨h.below.trans (hb.mono h.below.size),Nat.lt_of_lt_of_le h.lt hb.size,(hb.block _ h.lt).trans h.a⟩
theorem B1.ca {w W:World} {ca:Array Value} {t:TypeId} (h:B1 w ca t W) {j:Nat} {v:Value} (e:ca[j]? =some v):W.cell? ⟨w.heap.size,j,none⟩=some v:=by rw [cell_of_row _ _ _ _ _ _ h.a];exact e
def mfB (op m:Int):Bool:=
 if op=1∨op=2∨op=6∨op=35 then (m==0) else
 if op=3 then (decide (3≤m)&&(m%2==1)) else
 if op=4 then (decide (m≤1)) else
 if op=5 then (m%2==0) else
 if op=9∨op=11∨op=34 then (m==1) else
 if op=10 then (m==1||m==2) else
 if op=8∨op=28∨op=30 then (m==3) else
 if op=31 then (m==3||m==4) else
 if op=33 then (true) else
 if op=7∨op=29∨op=32 then (m==2) else
 (m==2&&((decide (12≤op)&&decide (op≤27))||(decide (36≤op)&&decide (op≤43))))
set_option maxRecDepth 100000 in
set_option maxHeartbeats 6400000 in
theorem w_manyFit (op:Int) (n:Nat) (hn:n≤140737488355328) (w:World):Calls Tryz.prog 130 #[.int .i64 op,.int .i64 (n:Int)] w fun e w'=>e= .returned (.bool (mfB op (n:Int)))∧w'=w:=by
 obtain ⟨R,HR⟩:∃ R,Hid (mfB op (n:Int)=R):=⟨_,rfl⟩;rw [HR.out];have h0:(0:Int)≤(n:Int):=by omega
 by_cases h1:op=1
 · subst h1;go_in;go_wp2_with fail;go_ret;exact ⟨by rw [← HR.out];simp [mfB],rfl⟩
 have b1:(op==1)=false:=by rw [bqZ];exact h1
 by_cases h2:op=2
 · subst h2;go_in;go_wp2_with fail;go_ret;exact ⟨by rw [← HR.out];simp [mfB],rfl⟩
 have b2:(op==2)=false:=by rw [bqZ];exact h2
 by_cases h6:op=6
 · subst h6;go_in;go_wp2_with fail;go_ret;exact ⟨by rw [← HR.out];simp [mfB],rfl⟩
 have b6:(op==6)=false:=by rw [bqZ];exact h6
 by_cases h35:op=35
 · subst h35;go_in;go_wp2_with fail;go_ret;exact ⟨by rw [← HR.out];simp [mfB],rfl⟩
 have b35:(op==35)=false:=by rw [bqZ];exact h35
 by_cases h3:op=3
 · subst h3;by_cases hm:(3:Int)≤(n:Int)
   · go_in;go_wp2_with fail;go_ret;exact ⟨by rw [← HR.out];simp [mfB,hm],rfl⟩
   · have hm2:decide ((3:Int)≤(n:Int))=false:=by rw [decide_eq_false_iff_not];exact hm
     go_in;go_wp2_with fail;go_ret;exact ⟨by rw [← HR.out];simp only [mfB,hm2];rfl,rfl⟩
 have b3:(op==3)=false:=by rw [bqZ];exact h3
 by_cases h4:op=4
 · subst h4;go_in;go_wp2_with fail;go_ret;exact ⟨by rw [← HR.out];simp [mfB],rfl⟩
 have b4:(op==4)=false:=by rw [bqZ];exact h4
 by_cases h5:op=5
 · subst h5;go_in;go_wp2_with fail;go_ret;exact ⟨by rw [← HR.out];simp [mfB],rfl⟩
 have b5:(op==5)=false:=by rw [bqZ];exact h5
 by_cases h9:op=9
 · subst h9;go_in;go_wp2_with fail;go_ret;exact ⟨by rw [← HR.out];simp [mfB],rfl⟩
 have b9:(op==9)=false:=by rw [bqZ];exact h9
 by_cases h11:op=11
 · subst h11;go_in;go_wp2_with fail;go_ret;exact ⟨by rw [← HR.out];simp [mfB],rfl⟩
 have b11:(op==11)=false:=by rw [bqZ];exact h11
 by_cases h34:op=34
 · subst h34;go_in;go_wp2_with fail;go_ret;exact ⟨by rw [← HR.out];simp [mfB],rfl⟩
 have b34:(op==34)=false:=by rw [bqZ];exact h34
 by_cases h10:op=10
 · subst h10;by_cases hm:n=1
   · subst hm;go_in;go_wp2_with fail;go_ret;exact ⟨by rw [← HR.out];rfl,rfl⟩
   · have hm2:((n:Int)==1)=false:=by rw [bqZ];omega
     go_in;go_wp2_with fail;go_ret;exact ⟨by rw [← HR.out];simp [mfB,hm2],rfl⟩
 have b10:(op==10)=false:=by rw [bqZ];exact h10
 by_cases h8:op=8
 · subst h8;go_in;go_wp2_with fail;go_ret;exact ⟨by rw [← HR.out];simp [mfB],rfl⟩
 have b8:(op==8)=false:=by rw [bqZ];exact h8
 by_cases h28:op=28
 · subst h28;go_in;go_wp2_with fail;go_ret;exact ⟨by rw [← HR.out];simp [mfB],rfl⟩
 have b28:(op==28)=false:=by rw [bqZ];exact h28
 by_cases h30:op=30
 · subst h30;go_in;go_wp2_with fail;go_ret;exact ⟨by rw [← HR.out];simp [mfB],rfl⟩
 have b30:(op==30)=false:=by rw [bqZ];exact h30
 by_cases h31:op=31
 · subst h31;by_cases hm:n=3
   · subst hm;go_in;go_wp2_with fail;go_ret;exact ⟨by rw [← HR.out];rfl,rfl⟩
   · have hm2:((n:Int)==3)=false:=by rw [bqZ];omega
     go_in;go_wp2_with fail;go_ret;exact ⟨by rw [← HR.out];simp [mfB,hm2],rfl⟩
 have b31:(op==31)=false:=by rw [bqZ];exact h31
 by_cases h33:op=33
 · subst h33;go_in;go_wp2_with fail;go_ret;exact ⟨by rw [← HR.out];simp [mfB],rfl⟩
 have b33:(op==33)=false:=by rw [bqZ];exact h33
 by_cases h7:op=7
 · subst h7;go_in;go_wp2_with fail;go_ret;exact ⟨by rw [← HR.out];simp [mfB],rfl⟩
 have b7:(op==7)=false:=by rw [bqZ];exact h7
 by_cases h29:op=29
 · subst h29;go_in;go_wp2_with fail;go_ret;exact ⟨by rw [← HR.out];simp [mfB],rfl⟩
 have b29:(op==29)=false:=by rw [bqZ];exact h29
 by_cases h32:op=32
 · subst h32;go_in;go_wp2_with fail;go_ret;exact ⟨by rw [← HR.out];simp [mfB],rfl⟩
 have b32:(op==32)=false:=by rw [bqZ];exact h32
 by_cases hm:n=2
 · subst hm;have HD:Hid (mfB op 2=((decide (12≤op)&&decide (op≤27))||(decide (36≤op)&&decide (op≤43)))):=by show _=_;simp [mfB,h1,h2,h6,h35,h3,h4,h5,h9,h11,h34,h10,h8,h28,h30,h31,h33,h7,h29,h32]
   clear h1 h2 h6 h35 h3 h4 h5 h9 h11 h34 h10 h8 h28 h30 h31 h33 h7 h29 h32;by_cases c1:(12:Int)≤op
   · have d1:decide ((12:Int)≤op)=true:=by rw [decide_eq_true_iff];exact c1
     by_cases c2:op≤(27:Int)
     · have d2:decide (op≤(27:Int))=true:=by rw [decide_eq_true_iff];exact c2
       go_in;go_wp2_with fail;go_ret;exact ⟨by rw [← HR.out];show Ending.returned _=Ending.returned (.bool (mfB op 2));rw [HD.out,d1,d2];rfl,rfl⟩
     · have d2:decide (op≤(27:Int))=false:=by rw [decide_eq_false_iff_not];exact c2
       by_cases c3:(36:Int)≤op
       · have d3:decide ((36:Int)≤op)=true:=by rw [decide_eq_true_iff];exact c3
         by_cases c4:op≤(43:Int)
         · have d4:decide (op≤(43:Int))=true:=by rw [decide_eq_true_iff];exact c4
           go_in;go_wp2_with fail;go_ret;exact ⟨by rw [← HR.out];show Ending.returned _=Ending.returned (.bool (mfB op 2));rw [HD.out,d1,d2,d3,d4];rfl,rfl⟩
         · have d4:decide (op≤(43:Int))=false:=by rw [decide_eq_false_iff_not];exact c4
           go_in;go_wp2_with fail;go_ret;exact ⟨by rw [← HR.out];show Ending.returned _=Ending.returned (.bool (mfB op 2));rw [HD.out,d1,d2,d3,d4];rfl,rfl⟩
       · have d3:decide ((36:Int)≤op)=false:=by rw [decide_eq_false_iff_not];exact c3
         go_in;go_wp2_with fail;go_ret;exact ⟨by rw [← HR.out];show Ending.returned _=Ending.returned (.bool (mfB op 2));rw [HD.out,d1,d2,d3];rfl,rfl⟩
   · have d1:decide ((12:Int)≤op)=false:=by rw [decide_eq_false_iff_not];exact c1
     have d3:decide ((36:Int)≤op)=false:=by rw [decide_eq_false_iff_not];omega
     go_in;go_wp2_with fail;go_ret;exact ⟨by rw [← HR.out];show Ending.returned _=Ending.returned (.bool (mfB op 2));rw [HD.out,d1,d3];rfl,rfl⟩
 · have hm2:((n:Int)==2)=false:=by rw [bqZ];omega
   have HD:Hid (mfB op (n:Int)=false):=by show _=_;simp [mfB,hm2,h1,h2,h6,h35,h3,h4,h5,h9,h11,h34,h10,h8,h28,h30,h31,h33,h7,h29,h32]
   clear h1 h2 h6 h35 h3 h4 h5 h9 h11 h34 h10 h8 h28 h30 h31 h33 h7 h29 h32;go_in;go_wp2_with fail;go_ret;exact ⟨by rw [← HR.out];rw [HD.out];rfl,rfl⟩
end Go.Proofs.YtdjleoglphgdgaaGreatDoor
