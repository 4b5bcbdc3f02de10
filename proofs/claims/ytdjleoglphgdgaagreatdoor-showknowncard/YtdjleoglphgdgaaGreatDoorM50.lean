import Derived.Test.YtdjleoglphgdgaaGreatDoorM48
import Derived.Test.YtdjleoglphgdgaaGreatDoorM49
import Derived.Test.YtdjleoglphgdgaaGreatDoorM23
import Derived.Test.YtdjleoglphgdgaaGreatDoorM18
import Derived.Test.YtdjleoglphgdgaaGreatDoorM2
set_option linter.unusedVariables false
set_option linter.unusedSimpArgs false
namespace Go.Proofs.YtdjleoglphgdgaaGreatDoor
open Go.RowKit Go.Shelf Go.Sort
attribute [local go_sem] Oper.semAt_some
set_option maxRecDepth 100000
set_option maxHeartbeats 12800000
def vt0:VT:= .mk 0 .empty .empty [] []
def nn0:NT:= .mk 0 0 .empty vt0 [] []
theorem inH_0 (w:World) (h:Nat):InH w (h+1) vt0 (.agg #[.int .i64 0,.string ⟨#[]⟩,.string ⟨#[]⟩,.slice none 0 0,.slice none 0 0]):=
 ⟨none,0,none,0,rfl,by decide,by decide,Nat.zero_le _,Nat.zero_le _,Nat.le_refl _,Nat.le_refl _,fun k hk=>(by cases hk),⟨fun h=>absurd h (by show ¬ 0<0;omega)⟩,fun h=>absurd h (by show ¬ 0<0;omega)⟩
theorem VAt.up {w:World} {h:Nat} {A:VT} {g o:Nat} (hv:VAt w h A g o):VAt w (h+1) A g o:=by
 obtain ⟨v0,v1,v2,v3,v4,c,hi⟩:=hv;exact ⟨v0,v1,v2,v3,v4,c,hi.up⟩
theorem w_isZero (h:Nat) (V:VT) (g o:Nat) (w:World) (hV:VAt w h V g o):Calls Tryz.prog 133 #[.pointer (some ⟨g,o,none⟩)] w fun e w'=>e= .returned (.bool (sq V vt0))∧Below w.heap.size w w':=by
 obtain ⟨W1,hW1⟩:∃ W1,w.alloc (.cells #[.int .i64 0,.string ⟨#[]⟩,.string ⟨#[]⟩,.slice none 0 0,.slice none 0 0] 25)=W1:=⟨_,rfl⟩;have HX:=hQz (B1.new hW1)
 have HC:Hid (Calls Tryz.prog 177 #[.pointer (some ⟨g,o,none⟩),.pointer (some ⟨w.heap.size,0,none⟩)] W1 fun e w'=>e= .returned (.bool (sq V vt0))∧Below W1.heap.size W1 w'):=w_alike (h+1) V vt0 g o _ 0 W1 (hV.keep HX.out.below).up
  ⟨_,_,_,_,_,⟨HX.out.ca (j:=0) rfl,HX.out.ca (j:=1) rfl,HX.out.ca (j:=2) rfl,HX.out.ca (j:=3) rfl,HX.out.ca (j:=4) rfl⟩,inH_0 W1 h⟩
 generalize sq V vt0=r at *;clear hV;go_in;go_wp2_with fail;refine HC.out.mono ?_;rintro e w2 ⟨rfl,hb2⟩;have HX2:=hQz (HX.out.keep hb2);clear hb2;go_wp2_with fail;go_ret;exact ⟨rfl,HX2.out.below⟩
theorem noneIff {A:NT}:noA A=noA nn0↔A.op=0∧A.text= .empty∧A.value=vt0∧A.names=[]∧A.kids=[]:=by
 rw [noA_eq];constructor
 · rintro ⟨h1,h2,h3,h4,h5⟩;refine ⟨h1,h2,h3,h4,?_⟩;have:=noAs_len_eq h5;exact List.eq_nil_of_length_eq_zero this
 · rintro ⟨h1,h2,h3,h4,h5⟩;exact ⟨h1,h2,h3,h4,by rw [h5];rfl⟩
theorem ne_bytes {x:ByteArray} (h:¬ x= .empty):x.toList.isEmpty=false∧(x.toList==[])=false∧¬ x.toList=[]:=by
 have h1:¬ x.toList=[]:=fun e=>h (by
  rw [Lib.toList_data] at e;exact ByteArray.ext (Array.toList_inj.1 (by rw [e];rfl)))
 refine ⟨?_,?_,h1⟩
 · cases hx:x.toList with
   | nil=>exact absurd hx h1
   | cons a l=>rfl
 · rw [bqZ];exact h1
theorem w_isNone (h:Nat) (A:NT) (g o:Nat) (w:World) (hA:NAt w (h+1) A g o):Calls Tryz.prog 176 #[.pointer (some ⟨g,o,none⟩)] w fun e w'=>e= .returned (.bool (sq (noA A) (noA nn0)))∧Below w.heap.size w w':=by
 obtain ⟨aio,aic,ayo,ayc,ano,anc,ako,akc,HA⟩:=hA.open_;obtain ⟨R,HR⟩:∃ R,Hid (sq (noA A) (noA nn0)=R):=⟨_,rfl⟩;rw [HR.out];have HEq:Hid (noA A=noA nn0↔A.op=0∧A.text= .empty∧A.value=vt0∧A.names=[]∧A.kids=[]):=noneIff;have HV:Hid (Calls Tryz.prog 133 #[.pointer (some ⟨g,o+3,none⟩)] w fun e w'=>e= .returned (.bool (sq A.value vt0))∧Below w.heap.size w w'):=w_isZero (h+1) _ _ _ w HA.val;have c0:=HA.c0;have c2:=HA.c2;have HP:=hQz (And.intro HA.c8 HA.c9);clear HA hA;obtain ⟨aop,aat,atx,aV,aN,aI⟩:=A;simp only [NT.op,NT.text,NT.value,NT.names,NT.kids] at *;by_cases hk:aop=0
 rotate_left
 · have HT:Hid (R=false):=HR.out.symm.trans (q2h (fun e=>hk (HEq.out.1 e).1));have g1:(aop==0)=false:=by rw [bqZ];exact hk
   go_in;go_wp2_with fail;go_ret;exact ⟨by rw [HT.out];rfl,Below.refl _ _⟩
 subst hk;by_cases hx:atx= .empty
 rotate_left
 · have HT:Hid (R=false):=HR.out.symm.trans (q2h (fun e=>hx (HEq.out.1 e).2.1));obtain ⟨g2,g3,g4⟩:=ne_bytes hx;clear hx;go_in;go_wp2_with fail;go_ret;exact ⟨by rw [HT.out];rfl,Below.refl _ _⟩
 subst hx;by_cases hv:aV=vt0
 rotate_left
 · have HT:Hid (R=false):=HR.out.symm.trans (q2h (fun e=>hv (HEq.out.1 e).2.2.1));rw [q2h hv] at HV;go_in;go_wp2_with fail;refine HV.out.mono ?_;rintro e w2 ⟨rfl,hb2⟩;have c8:=(hb2.cell (p:=⟨g,o+8,none⟩) (block_lt_of_cell HP.out.1)).trans HP.out.1;have c9:=(hb2.cell (p:=⟨g,o+9,none⟩) (block_lt_of_cell HP.out.2)).trans HP.out.2;have HB2:=hQz hb2;clear hb2;go_wp2_with fail;go_ret;exact ⟨by rw [HT.out];rfl,HB2.out⟩
 rw [q2j.2 hv] at HV;have HVV:=hQz hv;clear hv;by_cases hl:aN.length=0
 rotate_left
 · have HT:Hid (R=false):=HR.out.symm.trans (q2h (fun e=>hl (by rw [(HEq.out.1 e).2.2.2.1];rfl)));have g5:((aN.length:Int)==0)=false:=by rw [bqZ];omega
   go_in;go_wp2_with fail;refine HV.out.mono ?_;rintro e w2 ⟨rfl,hb2⟩;have c8:=(hb2.cell (p:=⟨g,o+8,none⟩) (block_lt_of_cell HP.out.1)).trans HP.out.1;have c9:=(hb2.cell (p:=⟨g,o+9,none⟩) (block_lt_of_cell HP.out.2)).trans HP.out.2;have HB2:=hQz hb2;clear hb2;go_wp2_with fail;go_ret;exact ⟨by rw [HT.out];rfl,HB2.out⟩
 have HN:Hid (aN=[]):=List.eq_nil_of_length_eq_zero hl;rw [hl] at HP;clear hl;by_cases hl:aI.length=0
 rotate_left
 · have HT:Hid (R=false):=HR.out.symm.trans (q2h (fun e=>hl (by rw [(HEq.out.1 e).2.2.2.2];rfl)));have g5:((aI.length:Int)==0)=false:=by rw [bqZ];omega
   go_in;go_wp2_with fail;refine HV.out.mono ?_;rintro e w2 ⟨rfl,hb2⟩;have c8:=(hb2.cell (p:=⟨g,o+8,none⟩) (block_lt_of_cell HP.out.1)).trans HP.out.1;have c9:=(hb2.cell (p:=⟨g,o+9,none⟩) (block_lt_of_cell HP.out.2)).trans HP.out.2;have HB2:=hQz hb2;clear hb2;go_wp2_with fail;go_ret;exact ⟨by rw [HT.out];rfl,HB2.out⟩
 have HI:Hid (aI=[]):=List.eq_nil_of_length_eq_zero hl;rw [hl] at HP;clear hl;have HT:Hid (R=true):=HR.out.symm.trans (q2j.2 (HEq.out.2 ⟨by first|rfl|trivial,by first|rfl|trivial,HVV.out,HN.out,HI.out⟩));go_in;go_wp2_with fail;refine HV.out.mono ?_;rintro e w2 ⟨rfl,hb2⟩;have c8:=(hb2.cell (p:=⟨g,o+8,none⟩) (block_lt_of_cell HP.out.1)).trans HP.out.1;have c9:=(hb2.cell (p:=⟨g,o+9,none⟩) (block_lt_of_cell HP.out.2)).trans HP.out.2;have HB2:=hQz hb2;clear hb2;go_wp2_with fail;go_ret;exact ⟨by rw [HT.out];rfl,HB2.out⟩
def nmO (op:Int):Bool:=op==6||op==35||op==29||op==30||op==31||op==32||op==33||op==34
def ttB (op:Int) (tx:ByteArray):Bool:=if nmO op then q0Y tx.data.toList else tx.data.toList.isEmpty
theorem empty_l {x:ByteArray}:x.data.toList.isEmpty=true↔x= .empty:=by
 constructor
 · intro h;exact ByteArray.ext (Array.toList_inj.1 (by rw [List.isEmpty_iff.1 h];rfl))
 · rintro rfl;rfl
theorem w_textFits (h:Nat) (A:NT) (g o:Nat) (w:World) (hA:NAt w (h+1) A g o):Calls Tryz.prog 73 #[.pointer (some ⟨g,o,none⟩)] w fun e w'=>e= .returned (.bool (ttB A.op A.text))∧Below w.heap.size w w':=by
 obtain ⟨aio,aic,ayo,ayc,ano,anc,ako,akc,HA⟩:=hA.open_;have HPl:Hid (Calls Tryz.prog 132 #[.string A.text] w fun e w'=>e= .returned (.bool (q0Y A.text.data.toList))∧w'=w):=w_Plain A.text w (Nat.le_trans HA.tx (by decide));have c0:=HA.c0;have c2:=HA.c2;clear HA hA;obtain ⟨aop,aat,atx,aV,aN,aI⟩:=A;simp only [NT.op,NT.text] at *;obtain ⟨R,HR⟩:∃ R,Hid (ttB aop atx=R):=⟨_,rfl⟩;rw [HR.out];by_cases h6:aop=6
 · subst h6;have HT:Hid (R=q0Y atx.data.toList):=HR.out.symm.trans (by unfold ttB;rw [if_pos (by decide)]);generalize q0Y atx.data.toList=r at *;go_in;go_wp2_with fail;refine HPl.out.mono ?_;rintro e w2 ⟨rfl,hw2⟩;obtain rfl:=hw2.symm;go_wp2_with fail;go_ret;exact ⟨by rw [HT.out];rfl,Below.refl _ _⟩
 have b6:(aop==6)=false:=by rw [bqZ];exact h6
 by_cases h35:aop=35
 · subst h35;have HT:Hid (R=q0Y atx.data.toList):=HR.out.symm.trans (by unfold ttB;rw [if_pos (by decide)]);generalize q0Y atx.data.toList=r at *;go_in;go_wp2_with fail;refine HPl.out.mono ?_;rintro e w2 ⟨rfl,hw2⟩;obtain rfl:=hw2.symm;go_wp2_with fail;go_ret;exact ⟨by rw [HT.out];rfl,Below.refl _ _⟩
 have b35:(aop==35)=false:=by rw [bqZ];exact h35
 by_cases h29:aop=29
 · subst h29;have HT:Hid (R=q0Y atx.data.toList):=HR.out.symm.trans (by unfold ttB;rw [if_pos (by decide)]);generalize q0Y atx.data.toList=r at *;go_in;go_wp2_with fail;refine HPl.out.mono ?_;rintro e w2 ⟨rfl,hw2⟩;obtain rfl:=hw2.symm;go_wp2_with fail;go_ret;exact ⟨by rw [HT.out];rfl,Below.refl _ _⟩
 have b29:(aop==29)=false:=by rw [bqZ];exact h29
 by_cases h30:aop=30
 · subst h30;have HT:Hid (R=q0Y atx.data.toList):=HR.out.symm.trans (by unfold ttB;rw [if_pos (by decide)]);generalize q0Y atx.data.toList=r at *;go_in;go_wp2_with fail;refine HPl.out.mono ?_;rintro e w2 ⟨rfl,hw2⟩;obtain rfl:=hw2.symm;go_wp2_with fail;go_ret;exact ⟨by rw [HT.out];rfl,Below.refl _ _⟩
 have b30:(aop==30)=false:=by rw [bqZ];exact h30
 by_cases h31:aop=31
 · subst h31;have HT:Hid (R=q0Y atx.data.toList):=HR.out.symm.trans (by unfold ttB;rw [if_pos (by decide)]);generalize q0Y atx.data.toList=r at *;go_in;go_wp2_with fail;refine HPl.out.mono ?_;rintro e w2 ⟨rfl,hw2⟩;obtain rfl:=hw2.symm;go_wp2_with fail;go_ret;exact ⟨by rw [HT.out];rfl,Below.refl _ _⟩
 have b31:(aop==31)=false:=by rw [bqZ];exact h31
 by_cases h32:aop=32
 · subst h32;have HT:Hid (R=q0Y atx.data.toList):=HR.out.symm.trans (by unfold ttB;rw [if_pos (by decide)]);generalize q0Y atx.data.toList=r at *;go_in;go_wp2_with fail;refine HPl.out.mono ?_;rintro e w2 ⟨rfl,hw2⟩;obtain rfl:=hw2.symm;go_wp2_with fail;go_ret;exact ⟨by rw [HT.out];rfl,Below.refl _ _⟩
 have b32:(aop==32)=false:=by rw [bqZ];exact h32
 by_cases h33:aop=33
 · subst h33;have HT:Hid (R=q0Y atx.data.toList):=HR.out.symm.trans (by unfold ttB;rw [if_pos (by decide)]);generalize q0Y atx.data.toList=r at *;go_in;go_wp2_with fail;refine HPl.out.mono ?_;rintro e w2 ⟨rfl,hw2⟩;obtain rfl:=hw2.symm;go_wp2_with fail;go_ret;exact ⟨by rw [HT.out];rfl,Below.refl _ _⟩
 have b33:(aop==33)=false:=by rw [bqZ];exact h33
 by_cases h34:aop=34
 · subst h34;have HT:Hid (R=q0Y atx.data.toList):=HR.out.symm.trans (by unfold ttB;rw [if_pos (by decide)]);generalize q0Y atx.data.toList=r at *;go_in;go_wp2_with fail;refine HPl.out.mono ?_;rintro e w2 ⟨rfl,hw2⟩;obtain rfl:=hw2.symm;go_wp2_with fail;go_ret;exact ⟨by rw [HT.out];rfl,Below.refl _ _⟩
 have b34:(aop==34)=false:=by rw [bqZ];exact h34
 have HD:Hid (R=atx.data.toList.isEmpty):=HR.out.symm.trans (by unfold ttB nmO;rw [b6,b35,b29,b30,b31,b32,b33,b34];rfl);clear h6 h35 h29 h30 h31 h32 h33 h34;by_cases hx:atx= .empty
 · subst hx;have HT:Hid (R=true):=HD.out;clear HD;go_in;go_wp2_with fail;go_ret;exact ⟨by rw [HT.out];rfl,Below.refl _ _⟩
 · have HT:Hid (R=false):=HD.out.trans (by cases hb:atx.data.toList.isEmpty with
    | true=>exact absurd (empty_l.1 hb) hx
    | false=>rfl)
   obtain ⟨g2,g3,g4⟩:=ne_bytes hx;clear hx HD;go_in;go_wp2_with fail;go_ret;exact ⟨by rw [HT.out];rfl,Below.refl _ _⟩
def pnB (k:ByteArray):Bool:=q0Y (Lib.trimPrefix k.data.toList [36])
def nsB (op:Int) (ks:List ByteArray):Bool:=if op=32 then ks.all pnB else ks.isEmpty
theorem trim_le (l p:List UInt8):(Lib.trimPrefix l p).length≤l.length:=by
 unfold Lib.trimPrefix
 split
 · simp
 · exact Nat.le_refl _
theorem w_namesFit (h:Nat) (A:NT) (g o:Nat) (w:World) (hA:NAt w (h+1) A g o):Calls Tryz.prog 75 #[.pointer (some ⟨g,o,none⟩)] w fun e w'=>e= .returned (.bool (nsB A.op A.names))∧Below w.heap.size w w':=by
 obtain ⟨aio,aic,ayo,ayc,ano,anc,ako,akc,HA⟩:=hA.open_;have c0:=HA.c0;have c8:=HA.c8;have HK:=hQz HA.names;have hcap:=HA.nl.1;have hbig:=HA.nl.2.1;have HS:=hQz HA.nl.2.2;clear HA hA;obtain ⟨aop,aat,atx,aV,aN,aI⟩:=A;simp only [NT.op,NT.names] at *;obtain ⟨R,HR⟩:∃ R,Hid (nsB aop aN=R):=⟨_,rfl⟩;rw [HR.out];obtain ⟨N,hN⟩:∃ N,N=aN.length:=⟨_,rfl⟩;rw [← hN] at c8 hcap hbig;by_cases hk:aop=32
 · subst hk;have HR2:Hid (R=aN.all pnB):=HR.out.symm.trans (by unfold nsB;rw [if_pos rfl]);have HN:=hQz hN;clear hN HR;go_in;go_wp2_with fail;clear c0 c8
   go_loopw [21] (fun i wr=>∃ k:Nat,k≤N∧i= .int .i64 (k:Int)∧wr=w∧Hid ((aN.take k).all pnB=true)) (fun i _=>N-(intOf i).toNat)
   case atStart=>exact ⟨0,Nat.zero_le _,rfl,rfl,rfl⟩
   case round=>
    obtain ⟨k,hk,rfl,rfl,HQ⟩:=hrel;by_cases hlt:k<N
    · have hl1:(k:Int)<(N:Int):=by omega
      have hl0:(0:Int)≤(k:Int):=by omega
      have hkx:k<aN.length:=by rw [← HN.out];exact hlt
      obtain ⟨b,off,e1,_,hr⟩:=HK.out.row (by omega);subst e1;have c:=hr k hkx;rw [getD_keyQ hkx] at c;have hsz:=HS.out _ (List.getElem_mem hkx)
      have HQ2:Hid (pnB aN[k]=true→(aN.take (k+1)).all pnB=true):=fun hp=>by
       rw [List.take_succ_eq_append_getElem hkx,List.all_append,HQ.out];simp [hp]
      have HNo:Hid (pnB aN[k]=false→aN.all pnB=false):=fun hp=>by
       rw [List.all_eq_false];exact ⟨aN[k],List.getElem_mem hkx,by rw [hp];decide⟩
      generalize aN[k]=x at *;clear hr hkx;have HT1:=hQz (Tryz.strings_TrimPrefix x ⟨#[36]⟩ wr)
      have HP1:Hid (Calls Tryz.prog 132 #[.string ⟨(Lib.trimPrefix x.data.toList [36]).toArray⟩] wr fun e w'=>e= .returned (.bool (pnB x))∧w'=wr):=w_Plain ⟨(Lib.trimPrefix x.data.toList [36]).toArray⟩ wr (by
       have h1:=trim_le x.data.toList [36];have h2:x.data.toList.length=x.size:=by rw [Array.length_toList];rfl
       show (Lib.trimPrefix x.data.toList [36]).toArray.size≤_;simp;omega)
      have HT1':Hid (Calls Tryz.prog 136 #[.string x,.string ⟨#[36]⟩] wr fun e w'=>e= .returned (.string ⟨(Lib.trimPrefix x.data.toList [36]).toArray⟩)∧w'=wr):=HT1.out;generalize (⟨(Lib.trimPrefix x.data.toList [36]).toArray⟩:ByteArray)=y at *;clear HT1 hsz;go_wp2_with fail;refine HT1'.out.mono ?_;rintro e w2 ⟨rfl,hw2⟩;obtain rfl:=hw2.symm;go_wp2_with fail;refine HP1.out.mono ?_;rintro e w2 ⟨rfl,hw2⟩;obtain rfl:=hw2.symm
      cases hp:pnB x with
      | true=>
       have HQ3:=hQz (HQ2.out hp);go_wp2_with fail;go_roundw
       case rel=>exact ⟨k+1,by omega,by go_num,by first|rfl|trivial,HQ3⟩
       case measure=>simp [intOf];omega
      | false=>
       have HT:Hid (R=false):=HR2.out.trans (HNo.out hp);go_wp2_with fail;go_ret;exact ⟨by rw [HT.out];rfl,Below.refl _ _⟩
    · have hl1:¬ (k:Int)<(N:Int):=by omega
      have HT:Hid (R=true):=by
       have e:=HQ.out;rw [List.take_of_length_le (by rw [← HN.out];omega)] at e;exact HR2.out.trans e
      go_wp2_with fail;go_ret;exact ⟨by rw [HT.out];rfl,Below.refl _ _⟩
 · have g1:(aop != 32)=true:=by simpa using hk
   have HR2:Hid (R=aN.isEmpty):=HR.out.symm.trans (by unfold nsB;rw [if_neg hk]);by_cases hz:N=0
   · have HT:Hid (R=true):=HR2.out.trans (by rw [List.isEmpty_iff];exact List.eq_nil_of_length_eq_zero (by omega));subst hz;clear hN;go_in;go_wp2_with fail;go_ret;exact ⟨by rw [HT.out];rfl,Below.refl _ _⟩
   · have HT:Hid (R=false):=HR2.out.trans (by cases haN:aN with
      | nil=>rw [haN] at hN;exact absurd hN hz
      | cons=>rfl)
     have g2:((N:Int)==0)=false:=by rw [bqZ];omega
     clear hN;go_in;go_wp2_with fail;go_ret;exact ⟨by rw [HT.out];rfl,Below.refl _ _⟩
noncomputable def vfB (h:Nat) (op:Int) (V:VT):Bool:=if op=2 then (if V.kind=0∨V.kind=1∨V.kind=2∨V.kind=4 then q1L h V else if V.kind=3 then (q1L h V&&decide (0≤Pl.cmpN V.num.data.toList [48])) else false) else sq V vt0
theorem w_valueFits (h:Nat) (A:NT) (g o:Nat) (w:World) (hA:NAt w (h+1) A g o):Calls Tryz.prog 74 #[.pointer (some ⟨g,o,none⟩)] w fun e w'=>e= .returned (.bool (vfB (h+1) A.op A.value))∧Below w.heap.size w w':=by
 obtain ⟨aio,aic,ayo,ayc,ano,anc,ako,akc,HA⟩:=hA.open_;have HV:Hid (Calls Tryz.prog 133 #[.pointer (some ⟨g,o+3,none⟩)] w fun e w'=>e= .returned (.bool (sq A.value vt0))∧Below w.heap.size w w'):=w_isZero (h+1) _ _ _ w HA.val;have c0:=HA.c0;have c3:=HA.c3;have c4:=HA.c4;have c5:=HA.c5;have c6:=HA.c6;have c7:=HA.c7;have HVa:=hQz HA.val;clear HA hA;obtain ⟨aop,aat,atx,⟨vk,vn,vx,vI,vK⟩,aN,aI⟩:=A;simp only [NT.op,NT.value,VT.kind,VT.num,VT.text,VT.items,VT.keys] at *;obtain ⟨R,HR⟩:∃ R,Hid (vfB (h+1) aop (VT.mk vk vn vx vI vK)=R):=⟨_,rfl⟩;rw [HR.out];by_cases hk:aop=2
 rotate_left
 · have g1:(aop != 2)=true:=by simpa using hk
   have HR2:Hid (R=sq (VT.mk vk vn vx vI vK) vt0):=HR.out.symm.trans (by unfold vfB;rw [if_neg hk]);generalize sq (VT.mk vk vn vx vI vK) vt0=r at *;go_in;go_wp2_with fail;refine HV.out.mono ?_;rintro e w2 ⟨rfl,hb2⟩;have HB2:=hQz hb2;clear hb2;go_wp2_with fail;go_ret;exact ⟨by rw [HR2.out];rfl,HB2.out⟩
 subst hk;have HR2:Hid (R=(if vk=0∨vk=1∨vk=2∨vk=4 then q1L (h+1) (VT.mk vk vn vx vI vK) else if vk=3 then (q1L (h+1) (VT.mk vk vn vx vI vK)&&decide (0≤Pl.cmpN vn.data.toList [48])) else false)):=HR.out.symm.trans (by unfold vfB;rw [if_pos rfl];rfl);obtain ⟨v0,v1,v2,v3,v4,⟨p0,p1,p2,p3,p4⟩,hI⟩:=HVa.out;obtain rfl:=Option.some.inj (p0.symm.trans c3);obtain rfl:=Option.some.inj (p1.symm.trans c4);obtain rfl:=Option.some.inj (p2.symm.trans c5);obtain rfl:=Option.some.inj (p3.symm.trans c6);obtain rfl:=Option.some.inj (p4.symm.trans c7);clear p0 p1 p2 p3 p4;obtain ⟨W1,hW1⟩:∃ W1,w.alloc (.cells #[.int .i64 vk,.string vn,.string vx,.slice aio vI.length aic,.slice ayo vK.length ayc] 25)=W1:=⟨_,rfl⟩;have HX:=hQz (B1.new hW1);have HF:Hid (∀ u,Below w.heap.size w u→Calls Tryz.prog 134 #[.agg #[.int .i64 vk,.string vn,.string vx,.slice aio vI.length aic,.slice ayo vK.length ayc]] u fun e w'=>e= .returned (.bool (q1L (h+1) (VT.mk vk vn vx vI vK)))∧Below u.heap.size u w'):=fun u hu=>w_vFormed (h+1) _ _ u (hI.keep hu)
 have hvn:vn.size≤140737488355328:=by
  obtain ⟨_,_,_,_,_,q1,_⟩:=hI;exact q1
 have HCm:Hid (∀ u,Calls Tryz.prog 135 #[.string vn,.string ⟨#[48]⟩] u fun e w'=>e= .returned (.tuple #[.int .i64 (Pl.cmpN vn.data.toList [48]),.int .i64 (Pl.errN vn.data.toList [48])])∧Below u.heap.size u w'):=fun u=>w_Cmp vn ⟨#[48]⟩ u (by unfold maxLen;omega) (by unfold maxLen;decide);have x0:=HX.out.ca (j:=0) rfl;have x1:=HX.out.ca (j:=1) rfl;have x2:=HX.out.ca (j:=2) rfl;have x3:=HX.out.ca (j:=3) rfl;have x4:=HX.out.ca (j:=4) rfl;generalize q1L (h+1) (VT.mk vk vn vx vI vK)=ff at *;generalize Pl.cmpN vn.data.toList [48]=cc at *;generalize Pl.errN vn.data.toList [48]=ce at *;generalize vI.length=li at *;generalize vK.length=lk at *;clear hI hvn HV HR HVa;by_cases k0:vk=0
 · subst k0;have HT:Hid (R=ff):=HR2.out.trans (by rw [if_pos (by decide)]);go_in;go_wp2_with fail;refine (HF.out _ HX.out.below).mono ?_;rintro e w2 ⟨rfl,hb2⟩;have HX2:=hQz (HX.out.keep hb2);clear hb2;go_wp2_with fail;go_ret;exact ⟨by rw [HT.out];rfl,HX2.out.below⟩
 have b0:(vk==0)=false:=by rw [bqZ];exact k0
 by_cases k1:vk=1
 · subst k1;have HT:Hid (R=ff):=HR2.out.trans (by rw [if_pos (by decide)]);go_in;go_wp2_with fail;refine (HF.out _ HX.out.below).mono ?_;rintro e w2 ⟨rfl,hb2⟩;have HX2:=hQz (HX.out.keep hb2);clear hb2;go_wp2_with fail;go_ret;exact ⟨by rw [HT.out];rfl,HX2.out.below⟩
 have b1:(vk==1)=false:=by rw [bqZ];exact k1
 by_cases k2:vk=2
 · subst k2;have HT:Hid (R=ff):=HR2.out.trans (by rw [if_pos (by decide)]);go_in;go_wp2_with fail;refine (HF.out _ HX.out.below).mono ?_;rintro e w2 ⟨rfl,hb2⟩;have HX2:=hQz (HX.out.keep hb2);clear hb2;go_wp2_with fail;go_ret;exact ⟨by rw [HT.out];rfl,HX2.out.below⟩
 have b2:(vk==2)=false:=by rw [bqZ];exact k2
 by_cases k4:vk=4
 · subst k4;have HT:Hid (R=ff):=HR2.out.trans (by rw [if_pos (by decide)]);go_in;go_wp2_with fail;refine (HF.out _ HX.out.below).mono ?_;rintro e w2 ⟨rfl,hb2⟩;have HX2:=hQz (HX.out.keep hb2);clear hb2;go_wp2_with fail;go_ret;exact ⟨by rw [HT.out];rfl,HX2.out.below⟩
 have b4:(vk==4)=false:=by rw [bqZ];exact k4
 by_cases k3:vk=3
 · subst k3;have HT:Hid (R=(ff&&decide (0≤cc))):=HR2.out.trans (by rw [if_neg (by decide),if_pos rfl]);clear HR2;go_in;go_wp2_with fail;refine (HCm.out _).mono ?_;rintro e w2 ⟨rfl,hb2⟩;have HX2:=hQz (HX.out.keep hb2);have y0:=HX2.out.ca (j:=0) rfl;have y1:=HX2.out.ca (j:=1) rfl;have y2:=HX2.out.ca (j:=2) rfl;have y3:=HX2.out.ca (j:=3) rfl;have y4:=HX2.out.ca (j:=4) rfl;clear hb2;go_wp2_with fail;refine (HF.out _ HX2.out.below).mono ?_;rintro e w3 ⟨rfl,hb3⟩;have HX3:=hQz (HX2.out.keep hb3);clear hb3
   cases ff with
   | true=>
    by_cases hc:(0:Int)≤cc
    · have hd:decide ((0:Int)≤cc)=true:=by rw [decide_eq_true_iff];exact hc
      go_wp2_with fail;go_ret;exact ⟨by rw [HT.out,hd];rfl,HX3.out.below⟩
    · have hd:decide ((0:Int)≤cc)=false:=by rw [decide_eq_false_iff_not];exact hc
      go_wp2_with fail;go_ret;exact ⟨by rw [HT.out,hd];rfl,HX3.out.below⟩
   | false=>
    go_wp2_with fail;go_ret;exact ⟨by rw [HT.out];rfl,HX3.out.below⟩
 have b3:(vk==3)=false:=by rw [bqZ];exact k3
 have HT:Hid (R=false):=HR2.out.trans (by rw [if_neg (by simp [k0,k1,k2,k4]),if_neg k3]);clear k0 k1 k2 k3 k4;go_in;go_wp2_with fail;go_ret;exact ⟨by rw [HT.out];rfl,HX.out.below⟩
noncomputable def kfB (fm:NT→Bool) (op:Int) (ks:List NT) (i:Nat) (k:NT):Bool:=
 if op=8∧0<i∧sq (noA k) (noA nn0)=true then !(sq (noA (ks.getD (3-i) nn0)) (noA nn0))
 else if op=3∧i%2=0 then decide (k.op=2)&&decide (k.value.kind=4)&&fm k
 else fm k
noncomputable def fpN:Nat→NT→Bool
 | 0,_=>false
 | h+1,A=>mfB A.op (A.kids.length:Int)&&((List.range A.kids.length).all fun i=>kfB (fpN h) A.op A.kids i (A.kids.getD i nn0))&&ttB A.op A.text&&vfB (h+1) A.op A.value&&nsB A.op A.names
def FpNOk (h:Nat):Prop:=∀ (A:NT) (g o:Nat) (w:World),NAt w h A g o→Calls Tryz.prog 40 #[.pointer (some ⟨g,o,none⟩)] w fun e w'=>e= .returned (.bool (fpN h A))∧Below w.heap.size w w'
theorem q2d {l:List NT} {i:Nat} (h:i<l.length):l.getD i nn0=l[i]:=by rw [List.getD_eq_getElem?_getD,List.getElem?_eq_getElem h];rfl
theorem NAt.pos {w:World} {h:Nat} {A:NT} {g o:Nat} (hv:NAt w h A g o):∃ n,h=n+1:=by
 cases h with
 | zero=>obtain ⟨_,_,hA⟩:=hv;exact hA.elim
 | succ n=>exact ⟨n,rfl⟩
theorem w_kidFits (h:Nat) (ih:FpNOk h) (A:NT) (g o i:Nat) (w:World) (hA:NAt w (h+1) A g o) (hi:i<A.kids.length) (h8:A.op=8→A.kids.length=3):Calls Tryz.prog 131 #[.pointer (some ⟨g,o,none⟩),.int .i64 (i:Int)] w fun e w'=>e= .returned (.bool (kfB (fpN h) A.op A.kids i (A.kids.getD i nn0)))∧Below w.heap.size w w':=by
 obtain ⟨aio,aic,ayo,ayc,ano,anc,ako,akc,HA⟩:=hA.open_;obtain ⟨b,off,e1,hr⟩:=HA.kids (by omega);have hk:=hr i hi;obtain ⟨h',hh⟩:=hk.pos;rw [q2d hi];have c0:=HA.c0;have c9:=HA.c9;have HC9:=hQz HA.c9;have hcap:=HA.kl.1;have hbig:=HA.kl.2
 have HN:Hid (∀ u,Below w.heap.size w u→Calls Tryz.prog 176 #[.pointer (some ⟨b,off+i*10,none⟩)] u fun e w'=>e= .returned (.bool (sq (noA A.kids[i]) (noA nn0)))∧Below u.heap.size u w'):=fun u hu=>by
  have:=hk.keep hu;rw [hh] at this;exact w_isNone h' _ _ _ u this
 have HO:Hid (A.op=8→0<i→∀ u,Below w.heap.size w u→Calls Tryz.prog 176 #[.pointer (some ⟨b,off+(3-i)*10,none⟩)] u fun e w'=>e= .returned (.bool (sq (noA (A.kids.getD (3-i) nn0)) (noA nn0)))∧Below u.heap.size u w'):=fun ho h0 u hu=>by
  have hl:=h8 ho;have:=(hr (3-i) (by omega)).keep hu;rw [hh] at this;rw [q2d (show 3-i<A.kids.length by omega)];exact w_isNone h' _ _ _ u this
 have HF:Hid (∀ u,Below w.heap.size w u→Calls Tryz.prog 40 #[.pointer (some ⟨b,off+i*10,none⟩)] u fun e w'=>e= .returned (.bool (fpN h A.kids[i]))∧Below u.heap.size u w'):=fun u hu=>ih _ _ _ u (hk.keep hu)
 obtain ⟨q0,q3⟩:w.cell? ⟨b,off+i*10,none⟩=some (.int .i64 A.kids[i].op)∧w.cell? ⟨b,off+i*10+3,none⟩=some (.int .i64 A.kids[i].value.kind):=by
  rw [hh] at hk;obtain ⟨_,_,_,_,_,_,_,_,HK⟩:=hk.open_;exact ⟨HK.c0,HK.c3⟩
 obtain ⟨R,hR⟩:∃ R,kfB (fpN h) A.op A.kids i A.kids[i]=R:=⟨_,rfl⟩;rw [hR];unfold kfB at hR;have HR:=hQz hR;clear hR;have H8:Hid (A.op=8→A.kids.length=3):=h8;generalize sq (noA A.kids[i]) (noA nn0)=r1 at *;generalize sq (noA (A.kids.getD (3-i) nn0)) (noA nn0)=r2 at *;generalize fpN h A.kids[i]=r3 at *;generalize A.kids[i].op=ko at *;generalize A.kids[i].value.kind=kk at *;rw [e1] at c9 HC9;clear HA hA hk hr e1 h8;generalize A.kids.length=N at *;generalize A.op=aop at *;have hi1:(i:Int)<(N:Int):=by omega
 have hi0:(0:Int)≤(i:Int):=by omega
 have HC0:=hQz c0;have HQ0:=hQz q0;have HQ3:=hQz q3;have HB0:Hid (Below w.heap.size w w):=Below.refl _ _;by_cases k8:aop=8
 · subst k8;have hN3:=H8.out rfl;subst hN3;by_cases i0:i=0
   · subst i0;have HT:Hid (R=r3):=HR.out.symm.trans (by rw [if_neg (by simp),if_neg (by simp)]);clear HR HO H8;go_in;go_wp2_with fail;refine (HF.out _ HB0.out).mono ?_;rintro e w1 ⟨rfl,hb1⟩;have HB1:=hQz (HB0.out.trans (hb1.mono HB0.out.size));clear hb1;go_wp2_with fail;go_ret;exact ⟨by rw [HT.out];rfl,HB1.out⟩
   by_cases i1:i=1
   · subst i1;have HO1:=hQz (HO.out rfl (by omega))
     cases r1 with
     | true=>
      have HT:Hid (R= !r2):=HR.out.symm.trans (by rw [if_pos ⟨rfl,by omega,rfl⟩]);clear HR HO H8;go_in;go_wp2_with fail;refine (HN.out _ HB0.out).mono ?_;rintro e w1 ⟨rfl,hb1⟩;have HB1:=hQz (HB0.out.trans (hb1.mono HB0.out.size));clear hb1;have c9x:=(HB1.out.cell (p:=⟨g,o+9,none⟩) (block_lt_of_cell HC9.out)).trans HC9.out;have c0x:=(HB1.out.cell (p:=⟨g,o,none⟩) (block_lt_of_cell HC0.out)).trans HC0.out;go_wp2_with fail;refine (HO1.out _ HB1.out).mono ?_;rintro e w2 ⟨rfl,hb2⟩;have HB2:=hQz (HB1.out.trans (hb2.mono HB1.out.size));clear hb2;go_wp2_with fail;go_ret;exact ⟨by rw [HT.out];rfl,HB2.out⟩
     | false=>
      have HT:Hid (R=r3):=HR.out.symm.trans (by rw [if_neg (by simp),if_neg (by simp)]);clear HR HO H8;go_in;go_wp2_with fail;refine (HN.out _ HB0.out).mono ?_;rintro e w1 ⟨rfl,hb1⟩;have HB1:=hQz (HB0.out.trans (hb1.mono HB0.out.size));clear hb1;have c9x:=(HB1.out.cell (p:=⟨g,o+9,none⟩) (block_lt_of_cell HC9.out)).trans HC9.out;have c0x:=(HB1.out.cell (p:=⟨g,o,none⟩) (block_lt_of_cell HC0.out)).trans HC0.out;go_wp2_with fail;refine (HF.out _ HB1.out).mono ?_;rintro e w2 ⟨rfl,hb2⟩;have HB2:=hQz (HB1.out.trans (hb2.mono HB1.out.size));clear hb2;go_wp2_with fail;go_ret;exact ⟨by rw [HT.out];rfl,HB2.out⟩
   by_cases i2:i=2
   · subst i2;have HO1:=hQz (HO.out rfl (by omega))
     cases r1 with
     | true=>
      have HT:Hid (R= !r2):=HR.out.symm.trans (by rw [if_pos ⟨rfl,by omega,rfl⟩]);clear HR HO H8;go_in;go_wp2_with fail;refine (HN.out _ HB0.out).mono ?_;rintro e w1 ⟨rfl,hb1⟩;have HB1:=hQz (HB0.out.trans (hb1.mono HB0.out.size));clear hb1;have c9x:=(HB1.out.cell (p:=⟨g,o+9,none⟩) (block_lt_of_cell HC9.out)).trans HC9.out;have c0x:=(HB1.out.cell (p:=⟨g,o,none⟩) (block_lt_of_cell HC0.out)).trans HC0.out;go_wp2_with fail;refine (HO1.out _ HB1.out).mono ?_;rintro e w2 ⟨rfl,hb2⟩;have HB2:=hQz (HB1.out.trans (hb2.mono HB1.out.size));clear hb2;go_wp2_with fail;go_ret;exact ⟨by rw [HT.out];rfl,HB2.out⟩
     | false=>
      have HT:Hid (R=r3):=HR.out.symm.trans (by rw [if_neg (by simp),if_neg (by simp)]);clear HR HO H8;go_in;go_wp2_with fail;refine (HN.out _ HB0.out).mono ?_;rintro e w1 ⟨rfl,hb1⟩;have HB1:=hQz (HB0.out.trans (hb1.mono HB0.out.size));clear hb1;have c9x:=(HB1.out.cell (p:=⟨g,o+9,none⟩) (block_lt_of_cell HC9.out)).trans HC9.out;have c0x:=(HB1.out.cell (p:=⟨g,o,none⟩) (block_lt_of_cell HC0.out)).trans HC0.out;go_wp2_with fail;refine (HF.out _ HB1.out).mono ?_;rintro e w2 ⟨rfl,hb2⟩;have HB2:=hQz (HB1.out.trans (hb2.mono HB1.out.size));clear hb2;go_wp2_with fail;go_ret;exact ⟨by rw [HT.out];rfl,HB2.out⟩
   exfalso;omega
 have b8:(aop==8)=false:=by rw [bqZ];exact k8
 by_cases k3:aop=3
 · subst k3;by_cases hp:i%2=0
   · have hp2:((i:Int)%2==0)=true:=by
      have:(i:Int)%2=0:=by omega
      rw [this];rfl
     have HR3:Hid (R=(decide (ko=2)&&decide (kk=4)&&r3)):=HR.out.symm.trans (by rw [if_neg (by simp),if_pos ⟨rfl,hp⟩]);have HPp:=hQz hp;clear HR HO H8 hp;by_cases o2:ko=2
     · subst o2;by_cases o4:kk=4
       · subst o4;have HT:Hid (R=r3):=HR3.out.trans (by simp);go_in;go_wp2_with fail;refine (HF.out _ HB0.out).mono ?_;rintro e w1 ⟨rfl,hb1⟩;have HB1:=hQz (HB0.out.trans (hb1.mono HB0.out.size));clear hb1;go_wp2_with fail;go_ret;exact ⟨by rw [HT.out];rfl,HB1.out⟩
       · have o4b:(kk==4)=false:=by rw [bqZ];exact o4
         have HT:Hid (R=false):=HR3.out.trans (by simp [o4]);clear o4;go_in;go_wp2_with fail;go_ret;exact ⟨by rw [HT.out];rfl,HB0.out⟩
     · have o2b:(ko==2)=false:=by rw [bqZ];exact o2
       have HT:Hid (R=false):=HR3.out.trans (by simp [o2]);clear o2;go_in;go_wp2_with fail;go_ret;exact ⟨by rw [HT.out];rfl,HB0.out⟩
   · have hp2:((i:Int)%2==0)=false:=by rw [bqZ];omega
     have HT:Hid (R=r3):=HR.out.symm.trans (by rw [if_neg (by simp),if_neg (fun h=>hp h.2)]);clear HR HO H8 hp;go_in;go_wp2_with fail;refine (HF.out _ HB0.out).mono ?_;rintro e w1 ⟨rfl,hb1⟩;have HB1:=hQz (HB0.out.trans (hb1.mono HB0.out.size));clear hb1;go_wp2_with fail;go_ret;exact ⟨by rw [HT.out];rfl,HB1.out⟩
 have b3:(aop==3)=false:=by rw [bqZ];exact k3
 have HT:Hid (R=r3):=HR.out.symm.trans (by rw [if_neg (fun h=>k8 h.1),if_neg (fun h=>k3 h.1)]);clear HR HO H8 k8 k3;go_in;go_wp2_with fail;refine (HF.out _ HB0.out).mono ?_;rintro e w1 ⟨rfl,hb1⟩;have HB1:=hQz (HB0.out.trans (hb1.mono HB0.out.size));clear hb1;go_wp2_with fail;go_ret;exact ⟨by rw [HT.out];rfl,HB1.out⟩
noncomputable def ksB (fm:NT→Bool) (A:NT):Bool:=(List.range A.kids.length).all fun i=>kfB fm A.op A.kids i (A.kids.getD i nn0)
theorem ks_up {p:Nat→Bool} {k:Nat} (h:(List.range k).all p=true) (hp:p k=true):(List.range (k+1)).all p=true:=by
 rw [List.range_succ,List.all_append,h];simp [hp]
theorem ks_no {p:Nat→Bool} {k n:Nat} (h:k<n) (hp:p k=false):(List.range n).all p=false:=by
 rw [List.all_eq_false];exact ⟨k,List.mem_range.2 h,by rw [hp];decide⟩
theorem mf8 {n:Int} (h:mfB 8 n=true):n=3:=by
 have:mfB 8 n=(n==3):=by simp [mfB]
 rw [this] at h;exact eq_of_beq h
theorem w_kidsFit (h:Nat) (ih:FpNOk h) (A:NT) (g o:Nat) (w:World) (hA:NAt w (h+1) A g o):Calls Tryz.prog 72 #[.pointer (some ⟨g,o,none⟩)] w fun e w'=>e= .returned (.bool (mfB A.op (A.kids.length:Int)&&ksB (fpN h) A))∧Below w.heap.size w w':=by
 obtain ⟨aio,aic,ayo,ayc,ano,anc,ako,akc,HA⟩:=hA.open_;have c0:=HA.c0;have c9:=HA.c9;have HC9:=hQz HA.c9;have hcap:=HA.kl.1;have hbig:=HA.kl.2;have HM:Hid (∀ d os,Calls Tryz.prog 130 #[.int .i64 A.op,.int .i64 (A.kids.length:Int)] (grow (redrawn w d) os) fun e w'=>e= .returned (.bool (mfB A.op (A.kids.length:Int)))∧Below (grow (redrawn w d) os).heap.size (grow (redrawn w d) os) w'):=fun d os=>(w_manyFit A.op A.kids.length HA.kl.2 _).mono (by rintro e w' ⟨rfl,rfl⟩;exact ⟨rfl,Below.refl _ _⟩)
 have HKf:Hid (mfB A.op (A.kids.length:Int)=true→∀ (i:Nat),i<A.kids.length→∀ u,Below w.heap.size w u→Calls Tryz.prog 131 #[.pointer (some ⟨g,o,none⟩),.int .i64 (i:Int)] u fun e w'=>e= .returned (.bool (kfB (fpN h) A.op A.kids i (A.kids.getD i nn0)))∧Below u.heap.size u w'):=fun hm i hi u hu=>w_kidFits h ih A g o i u (hA.keep hu) hi (fun h8=>by
  rw [h8] at hm;have:=mf8 hm;omega)
 have P0:=fun d os=>cell_regrown c0 d os;have P9:=fun d os=>cell_regrown c9 d os;clear HA hA c0 c9;unfold ksB;generalize hf:(fun i=>kfB (fpN h) A.op A.kids i (A.kids.getD i nn0))=p at*
 have HK2:Hid (mfB A.op (A.kids.length:Int)=true→∀ (i:Nat),i<A.kids.length→∀ u,Below w.heap.size w u→Calls Tryz.prog 131 #[.pointer (some ⟨g,o,none⟩),.int .i64 (i:Int)] u fun e w'=>e= .returned (.bool (p i))∧Below u.heap.size u w'):=fun hm i hi u hu=>by
  have:=HKf.out hm i hi u hu;rw [← hf];exact this
 clear HKf hf;generalize A.kids.length=N at *;generalize A.op=aop at *;obtain ⟨R,HR⟩:∃ R,Hid ((mfB aop (N:Int)&&(List.range N).all p)=R):=⟨_,rfl⟩;rw [HR.out]
 cases hm:mfB aop (N:Int) with
 | false=>
  rw [hm] at HM HR;have HT:Hid (R=false):=HR.out.symm;clear hm;go_in;go_wp2_with fail;refine wp_region_quiet_below (by kernel_rfl) (by kernel_rfl) ?_
  repeat (go_big_quiet_step (exact Calls.regrown_of (HM.out _ _)))
  refine wpQuiet_nil ?_;intro w2 hw'
  have HB2:Hid (Below w.heap.size w w2):=by
   obtain ⟨⟨dq,osq⟩,rfl⟩:=hw';exact below_regrown w dq osq
  clear hw' P0 P9;go_wp2_with fail;go_ret;exact ⟨by rw [HT.out];rfl,HB2.out⟩
 | true=>
  have HK3:=hQz (HK2.out hm);rw [hm] at HM HR;have HR3:Hid (R=(List.range N).all p):=HR.out.symm;clear hm HK2 HR;go_in;go_wp2_with fail;refine wp_region_quiet_below (by kernel_rfl) (by kernel_rfl) ?_
  repeat (go_big_quiet_step (exact Calls.regrown_of (HM.out _ _)))
  refine wpQuiet_nil ?_;intro w2 hw'
  have HB2:Hid (Below w.heap.size w w2):=by
   obtain ⟨⟨dq,osq⟩,rfl⟩:=hw';exact below_regrown w dq osq
  clear hw' P0 P9;have r9:=(HB2.out.cell (p:=⟨g,o+9,none⟩) (block_lt_of_cell HC9.out)).trans HC9.out;go_wp2_with fail;clear r9
  go_loopw [20] (fun i wr=>∃ k:Nat,k≤N∧i= .int .i64 (k:Int)∧Hid (Below w.heap.size w wr)∧Hid ((List.range k).all p=true)) (fun i _=>N-(intOf i).toNat)
  case atStart=>exact ⟨0,Nat.zero_le _,rfl,HB2,rfl⟩
  case round=>
   obtain ⟨k,hk,rfl,HBw,HQ⟩:=hrel;by_cases hlt:k<N
   · have hl1:(k:Int)<(N:Int):=by omega
     have hl0:(0:Int)≤(k:Int):=by omega
     have HCr:=hQz (HK3.out k hlt wr HBw.out);have HUp:Hid (p k=true→(List.range (k+1)).all p=true):=fun hp=>ks_up HQ.out hp;have HNo:Hid (p k=false→(List.range N).all p=false):=fun hp=>ks_no hlt hp;generalize p k=y at *;go_wp2_with fail;refine HCr.out.mono ?_;rintro e w3 ⟨rfl,hb3⟩;have HB3:Hid (Below w.heap.size w w3):=HBw.out.trans (hb3.mono HBw.out.size);clear hb3
     cases y with
     | true=>
      have HQ3:=hQz (HUp.out rfl);go_wp2_with fail;go_roundw
      case rel=>exact ⟨k+1,by omega,by go_num,HB3,HQ3⟩
      case measure=>simp [intOf];omega
     | false=>
      have HT:Hid (R=false):=HR3.out.trans (HNo.out rfl);go_wp2_with fail;go_ret;exact ⟨by rw [HT.out];rfl,HB3.out⟩
   · have hl1:¬ (k:Int)<(N:Int):=by omega
     have HT:Hid (R=true):=by
      have e:=HQ.out;rw [show k=N by omega] at e;exact HR3.out.trans e
     go_wp2_with fail;go_ret;exact ⟨by rw [HT.out];rfl,HBw.out⟩
theorem fp_step (h:Nat) (ih:FpNOk h):FpNOk (h+1):=by
 intro A g o w hA;have H1:Hid (∀ u,Below w.heap.size w u→Calls Tryz.prog 72 #[.pointer (some ⟨g,o,none⟩)] u fun e w'=>e= .returned (.bool (mfB A.op (A.kids.length:Int)&&ksB (fpN h) A))∧Below u.heap.size u w'):=fun u hu=>w_kidsFit h ih A g o u (hA.keep hu);have H2:Hid (∀ u,Below w.heap.size w u→Calls Tryz.prog 73 #[.pointer (some ⟨g,o,none⟩)] u fun e w'=>e= .returned (.bool (ttB A.op A.text))∧Below u.heap.size u w'):=fun u hu=>w_textFits h A g o u (hA.keep hu);have H3:Hid (∀ u,Below w.heap.size w u→Calls Tryz.prog 74 #[.pointer (some ⟨g,o,none⟩)] u fun e w'=>e= .returned (.bool (vfB (h+1) A.op A.value))∧Below u.heap.size u w'):=fun u hu=>w_valueFits h A g o u (hA.keep hu);have H4:Hid (∀ u,Below w.heap.size w u→Calls Tryz.prog 75 #[.pointer (some ⟨g,o,none⟩)] u fun e w'=>e= .returned (.bool (nsB A.op A.names))∧Below u.heap.size u w'):=fun u hu=>w_namesFit h A g o u (hA.keep hu);obtain ⟨R,HR⟩:∃ R,Hid (fpN (h+1) A=R):=⟨_,rfl⟩;rw [HR.out]
 have HR2:Hid (R=((mfB A.op (A.kids.length:Int)&&ksB (fpN h) A)&&ttB A.op A.text&&vfB (h+1) A.op A.value&&nsB A.op A.names)):=by
  show _=_;rw [← HR.out,fpN];unfold ksB;rfl
 clear HR hA;generalize (mfB A.op (A.kids.length:Int)&&ksB (fpN h) A)=r1 at *;generalize ttB A.op A.text=r2 at *;generalize vfB (h+1) A.op A.value=r3 at *;generalize nsB A.op A.names=r4 at *;have HB0:Hid (Below w.heap.size w w):=Below.refl _ _
 cases r1 with
 | false=>
  have HT:Hid (R=false):=HR2.out.trans rfl;go_in;go_wp2_with fail;refine (H1.out _ HB0.out).mono ?_;rintro e w1 ⟨rfl,hb1⟩;have HB1:=hQz (HB0.out.trans (hb1.mono HB0.out.size));clear hb1;go_wp2_with fail;go_ret;exact ⟨by rw [HT.out];rfl,HB1.out⟩
 | true=>
  cases r2 with
  | false=>
   have HT:Hid (R=false):=HR2.out.trans rfl;go_in;go_wp2_with fail;refine (H1.out _ HB0.out).mono ?_;rintro e w1 ⟨rfl,hb1⟩;have HB1:=hQz (HB0.out.trans (hb1.mono HB0.out.size));clear hb1;go_wp2_with fail;refine (H2.out _ HB1.out).mono ?_;rintro e w2 ⟨rfl,hb2⟩;have HB2:=hQz (HB1.out.trans (hb2.mono HB1.out.size));clear hb2;go_wp2_with fail;go_ret;exact ⟨by rw [HT.out];rfl,HB2.out⟩
  | true=>
   cases r3 with
   | false=>
    have HT:Hid (R=false):=HR2.out.trans rfl;go_in;go_wp2_with fail;refine (H1.out _ HB0.out).mono ?_;rintro e w1 ⟨rfl,hb1⟩;have HB1:=hQz (HB0.out.trans (hb1.mono HB0.out.size));clear hb1;go_wp2_with fail;refine (H2.out _ HB1.out).mono ?_;rintro e w2 ⟨rfl,hb2⟩;have HB2:=hQz (HB1.out.trans (hb2.mono HB1.out.size));clear hb2;go_wp2_with fail;refine (H3.out _ HB2.out).mono ?_;rintro e w3 ⟨rfl,hb3⟩;have HB3:=hQz (HB2.out.trans (hb3.mono HB2.out.size));clear hb3;go_wp2_with fail;go_ret;exact ⟨by rw [HT.out];rfl,HB3.out⟩
   | true=>
    have HT:Hid (R=r4):=HR2.out.trans (by simp);go_in;go_wp2_with fail;refine (H1.out _ HB0.out).mono ?_;rintro e w1 ⟨rfl,hb1⟩;have HB1:=hQz (HB0.out.trans (hb1.mono HB0.out.size));clear hb1;go_wp2_with fail;refine (H2.out _ HB1.out).mono ?_;rintro e w2 ⟨rfl,hb2⟩;have HB2:=hQz (HB1.out.trans (hb2.mono HB1.out.size));clear hb2;go_wp2_with fail;refine (H3.out _ HB2.out).mono ?_;rintro e w3 ⟨rfl,hb3⟩;have HB3:=hQz (HB2.out.trans (hb3.mono HB2.out.size));clear hb3;go_wp2_with fail;refine (H4.out _ HB3.out).mono ?_;rintro e w4 ⟨rfl,hb4⟩;have HB4:=hQz (HB3.out.trans (hb4.mono HB3.out.size));clear hb4;go_wp2_with fail;go_ret;exact ⟨by rw [HT.out];rfl,HB4.out⟩
theorem w_formedN:∀ h,FpNOk h
 | 0=>fun _ _ _ _ ⟨_,_,hA⟩=>hA.elim
 | h+1=>fp_step h (w_formedN h)
theorem w_FormedP (h:Nat) (A:NT) (va:Value) (w:World) (hA:InA w h A va):Calls Tryz.prog 25 #[va] w fun e w'=>e= .returned (.bool (fpN h A))∧Below w.heap.size w w':=by
 obtain ⟨aop,aat,avk,atx,avn,avx,aio,ayo,ano,ako,avi,aic,avy,ayc,ann,anc,akn,akc,rfl⟩:=inA_shape hA;obtain ⟨W1,hW1⟩:∃ W1,w.alloc (.cells #[.int .i64 aop,.int .i64 aat,.string atx,.int .i64 avk,.string avn,.string avx,.slice aio avi aic,.slice ayo avy ayc,.slice ano ann anc,.slice ako akn akc] 28)=W1:=⟨_,rfl⟩;have HX:=hQz (B1.new hW1);have HC:Hid (Calls Tryz.prog 40 #[.pointer (some ⟨w.heap.size,0,none⟩)] W1 fun e w'=>e= .returned (.bool (fpN h A))∧Below W1.heap.size W1 w'):=w_formedN h A _ 0 W1 (nat_box (c:=c10 (.int .i64 aop) (.int .i64 aat) (.string atx) (.int .i64 avk) (.string avn) (.string avx) (.slice aio avi aic) (.slice ayo avy ayc) (.slice ano ann anc) (.slice ako akn akc)) HX.out.a (hA.low HX.out.below));generalize fpN h A=r at *;clear hA;go_in;go_wp2_with fail;refine HC.out.mono ?_;rintro e w2 ⟨rfl,hb2⟩;have HX2:=hQz (HX.out.keep hb2);clear hb2;go_wp2_with fail;go_ret;exact ⟨rfl,HX2.out.below⟩
end Go.Proofs.YtdjleoglphgdgaaGreatDoor
