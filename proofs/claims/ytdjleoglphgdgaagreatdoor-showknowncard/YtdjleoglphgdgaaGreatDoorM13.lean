import Derived.Test.YtdjleoglphgdgaaGreatDoorM10
import Derived.Laws.IdiomStrings
import Derived.Test.YtdjleoglphgdgaaGreatDoorM9
import Derived.Test.YtdjleoglphgdgaaGreatDoorM6
set_option linter.unusedVariables false
set_option linter.unusedSimpArgs false
namespace Go.Proofs.YtdjleoglphgdgaaGreatDoor
open Go.RowKit
set_option maxRecDepth 100000
set_option maxHeartbeats 12800000
theorem q1D (l:List UInt8):1≤(decL l).2:=by
 simp only [decL]
 repeat' split
 all_goals simp
theorem decL_le (l:List UInt8) (h:l≠[]):(decL l).2≤l.length:=by
 have hl:0<l.length:=List.length_pos_iff.2 h;simp only [decL]
 repeat' split
 all_goals simp_all
 all_goals omega
def pcsF:Nat→List UInt8→List (Nat × Nat)
 | 0,_=>[]
 | f+1,l=>if l=[] then [] else decL l::pcsF f (l.drop (decL l).2)
def pcs (l:List UInt8):List (Nat × Nat):=pcsF l.length l
theorem pcsF_eq:∀ (f:Nat) (l:List UInt8),l.length≤f→pcsF f l=pcs l:=by
 intro f
 induction f using Nat.strongRecOn with
 | _ f ih=>
  intro l hl
  cases f with
  | zero=>
   have e:l=[]:=List.eq_nil_of_length_eq_zero (by omega);subst e;rfl
  | succ f=>
   by_cases hn:l=[]
   · subst hn;rfl
   · have hp:=q1D l;have hlen:0<l.length:=List.length_pos_iff.2 hn;obtain ⟨m,hm⟩:∃ m,l.length=m+1:=⟨l.length-1,by omega⟩;unfold pcs;rw [hm];simp only [pcsF,if_neg hn];rw [ih f (by omega) _ (by simp;omega)];rw [ih m (by omega) _ (by simp;omega)]
theorem pcs_cons {l:List UInt8} (h:l≠[]):pcs l=decL l::pcs (l.drop (decL l).2):=by
 have hlen:0<l.length:=List.length_pos_iff.2 h;obtain ⟨m,hm⟩:∃ m,l.length=m+1:=⟨l.length-1,by omega⟩;have hp:=q1D l;unfold pcs;rw [hm];simp only [pcsF,if_neg h];rw [pcsF_eq m _ (by simp;omega)];rfl
def q18 (l:List UInt8):List Nat:=(pcs l).map (·.1)
theorem runes_nil:q18 []=[]:=rfl
theorem runes_cons {l:List UInt8} (h:l≠[]):q18 l=(decL l).1::q18 (l.drop (decL l).2):=by unfold q18;rw [pcs_cons h];rfl
def RS (w:World) (v:Value) (zs:List Nat):Prop:=∃ g cap,v= .slice (some ⟨g,0,none⟩) zs.length cap∧zs.length≤cap∧g<w.heap.size∧∀ i,i<zs.length→w.cell? ⟨g,i,none⟩=some (.int .i32 ((zs.getD i 0:Nat):Int))
theorem RS.keep {w w':World} {v:Value} {zs:List Nat} (h:RS w v zs) (hb:Below w.heap.size w w'):RS w' v zs:=by
 obtain ⟨g,cap,hv,hc,hg,hr⟩:=h;exact ⟨g,cap,hv,hc,Nat.lt_of_lt_of_le hg hb.size,fun i hi=>(hb.cell (p:=⟨g,i,none⟩) hg).trans (hr i hi)⟩
theorem runes_enc (n:Nat) (h:isR n) (post:List UInt8):q18 (enc n++post)=n::q18 post:=by
 have hl:=(enc_len n).1;have hne:enc n++post≠[]:=by intro e;have:=congrArg List.length e;rw [List.length_append,List.length_nil] at this;omega
 rw [runes_cons hne,q1K n h post];simp
theorem isR_of {n:Nat} (h:Utf8.valid (n:Int)=true):isR n:=by
 unfold Utf8.valid at h;unfold isR;simp only [Bool.or_eq_true,Bool.and_eq_true,decide_eq_true_eq] at h;omega
theorem u8_of {b:UInt8} {n:Nat} (h:n=b.toNat):UInt8.ofNat n=b:=by subst h;simp
theorem decL_cases (l:List UInt8) (h:l≠[]):(∃ n post,isR n∧l=enc n++post)∨decL l=(65533,1):=by
 obtain ⟨b0,t,rfl⟩:=List.exists_cons_of_ne_nil h;have l0:=b0.toNat_lt;by_cases c0:b0.toNat<0x80
 · left
   refine ⟨b0.toNat,t,by unfold isR;omega,?_⟩;unfold enc;rw [if_pos c0,u8_of rfl];rfl
 by_cases c1:b0.toNat / 32=6
 · have c2:¬ b0.toNat / 16=14:=by omega
   have c3:¬ b0.toNat / 8=30:=by omega
   cases t with
   | nil=>right;simp [decL,c0,c1,c2,c3]
   | cons b1 t=>
    have l1:=b1.toNat_lt;by_cases d1:b1.toNat / 64=2
    · by_cases hc:(b0.toNat%32)*64+b1.toNat%64≥0x80
      · left
        refine ⟨(b0.toNat%32)*64+b1.toNat%64,t,by unfold isR;omega,?_⟩;unfold enc;rw [if_neg (by omega),if_pos (by omega),u8_of (b:=b0) (by omega),u8_of (b:=b1) (by omega)];rfl
      · right;simp [decL,c0,c1,c2,c3,d1,hc]
    · right;simp [decL,c0,c1,c2,c3,d1]
 by_cases c2:b0.toNat / 16=14
 · have c3:¬ b0.toNat / 8=30:=by omega
   cases t with
   | nil=>right;simp [decL,c0,c1,c2,c3]
   | cons b1 t=>
    have l1:=b1.toNat_lt
    cases t with
    | nil=>right;simp [decL,c0,c1,c2,c3]
    | cons b2 t=>
     have l2:=b2.toNat_lt;by_cases d1:b1.toNat / 64=2
     · by_cases d2:b2.toNat / 64=2
       · obtain ⟨c,hcc⟩:∃ c,c=(b0.toNat%16)*4096+(b1.toNat%64)*64+b2.toNat%64:=⟨_,rfl⟩;by_cases hc:c≥0x800
         · cases hv:Utf8.valid (c:Int) with
           | true=>
            left
            refine ⟨c,t,isR_of hv,?_⟩;unfold enc;rw [if_neg (by omega),if_neg (by omega),if_pos (by omega),u8_of (b:=b0) (by omega),u8_of (b:=b1) (by omega),u8_of (b:=b2) (by omega)];rfl
           | false=>
            right
            simp only [decL,List.getD_cons_zero,List.getD_cons_succ,← hcc,hv];simp [c0,c1,c2,c3,d1,d2]
         · right
           simp only [decL,List.getD_cons_zero,List.getD_cons_succ,← hcc];simp [c0,c1,c2,c3,d1,d2,hc]
       · right;simp [decL,c0,c1,c2,c3,d1,d2]
     · right;simp [decL,c0,c1,c2,c3,d1]
 by_cases c3:b0.toNat / 8=30
 · cases t with
   | nil=>right;simp [decL,c0,c1,c2,c3]
   | cons b1 t=>
    have l1:=b1.toNat_lt
    cases t with
    | nil=>right;simp [decL,c0,c1,c2,c3]
    | cons b2 t=>
     have l2:=b2.toNat_lt
     cases t with
     | nil=>right;simp [decL,c0,c1,c2,c3]
     | cons b3 t=>
      have l3:=b3.toNat_lt;by_cases d1:b1.toNat / 64=2
      · by_cases d2:b2.toNat / 64=2
        · by_cases d3:b3.toNat / 64=2
          · obtain ⟨c,hcc⟩:∃ c,c=(b0.toNat%8)*262144+(b1.toNat%64)*4096+(b2.toNat%64)*64+b3.toNat%64:=⟨_,rfl⟩;by_cases hc:c≥0x10000
            · cases hv:Utf8.valid (c:Int) with
              | true=>
               left
               refine ⟨c,t,isR_of hv,?_⟩;unfold enc;rw [if_neg (by omega),if_neg (by omega),if_neg (by omega),u8_of (b:=b0) (by omega),u8_of (b:=b1) (by omega),u8_of (b:=b2) (by omega),u8_of (b:=b3) (by omega)];rfl
              | false=>
               right
               simp only [decL,List.getD_cons_zero,List.getD_cons_succ,← hcc,hv];simp [c0,c1,c2,c3,d1,d2,d3]
            · right
              simp only [decL,List.getD_cons_zero,List.getD_cons_succ,← hcc];simp [c0,c1,c2,c3,d1,d2,d3,hc]
          · right;simp [decL,c0,c1,c2,c3,d1,d2,d3]
        · right;simp [decL,c0,c1,c2,c3,d1,d2]
      · right;simp [decL,c0,c1,c2,c3,d1]
 · right;simp [decL,c0,c1,c2,c3]
theorem q2t:enc 65533=[239,191,189]:=by decide
theorem decL_isR (l:List UInt8) (h:l≠[]):isR (decL l).1:=by
 rcases decL_cases l h with ⟨n,post,hn,rfl⟩|e
 · rw [q1K n hn post];exact hn
 · rw [e];unfold isR;omega
def q0R (l:List UInt8):Bool:=(decL l).1==65533&& !(Lib.hasPrefix l [239,191,189])
theorem pre_err (post:List UInt8):Lib.hasPrefix (enc 65533++post) [239,191,189]=true:=by rw [q2t];rfl
theorem pre_err_of {l:List UInt8} (h:Lib.hasPrefix l [239,191,189]=true):∃ post,l=enc 65533++post:=by
 rw [q2t];have h':([239,191,189]:List UInt8).isPrefixOf l=true:=h;rw [List.isPrefixOf_iff_prefix] at h';obtain ⟨t,rfl⟩:=h';exact ⟨t,rfl⟩
theorem stray_enc (n:Nat) (hn:isR n) (post:List UInt8):q0R (enc n++post)=false:=by
 unfold q0R;rw [q1K n hn post];by_cases h:n=65533
 · subst h;rw [pre_err];rfl
 · rw [show (n==65533)=false from bqZ.2 h];rfl
theorem stray_or (l:List UInt8) (h:l≠[]):(∃ n post,isR n∧l=enc n++post∧q0R l=false)∨(decL l=(65533,1)∧q0R l=true):=by
 rcases decL_cases l h with ⟨n,post,hn,rfl⟩|e
 · exact Or.inl ⟨n,post,hn,rfl,stray_enc n hn post⟩
 · right
   refine ⟨e,?_⟩;unfold q0R;rw [e]
   cases hp:Lib.hasPrefix l [239,191,189] with
   | false=>rfl
   | true=>
    obtain ⟨post,rfl⟩:=pre_err_of hp;rw [q1K 65533 (by unfold isR;omega) post,q2t] at e
    cases e
def off (l:List UInt8):Nat→Nat
 | 0=>0
 | k+1=>if l=[] then 0 else (decL l).2+off (l.drop (decL l).2) k
theorem below_grown {w w1:World} (hb:Below w.heap.size w w1) (r:Option Nat):w.grownBy w1 r:=⟨hb.os,hb.tape,hb.output,hb.size,fun i hi _=>hb.block i hi⟩
theorem own_below {w w1:World} {B e size n:Nat} {v:Value} {xs:List Value} (h:w.ownsRow B e size v n xs) (hb:Below w.heap.size w w1):w1.ownsRow B e size v n xs:=by
 refine ⟨h.1,?_⟩;rcases h.2 with h0|⟨g,cap,cur,hv,hb',hg,rest⟩
 · exact .inl h0
 · refine .inr ⟨g,cap,cur,hv,hb',?_,rest⟩;rw [hb.block g (Array.getElem?_eq_some_iff.1 hg).1];exact hg
def sgn (n:Nat):Option UInt8:=if n=34 then some 34 else if n=92 then some 92 else if n=8 then some 98 else if n=12 then some 102 else if n=10 then some 110 else if n=13 then some 114 else if n=9 then some 116 else none
def qd (n:Nat):List UInt8:=match sgn n with
 | some c=>[92,c]
 | none=>if n<32∨n=127 then unit n else enc n
theorem qd_len (n:Nat):1≤(qd n).length∧(qd n).length≤6:=by
 unfold qd
 split
 · simp
 · split
   · have e:(unit n).length=6:=rfl;omega
   · have:=enc_len n;omega
theorem q2i (n:Nat) (h:isR n):Lib.encodeRune (n:Int)=enc n:=by
 unfold isR at h;unfold Lib.encodeRune enc;by_cases h1:n<0x80
 · rw [Lib.encodeRuneZ_one (by omega) (by omega),if_pos h1];simp
 · rw [if_neg h1];by_cases h2:n<0x800
   · rw [Lib.encodeRuneZ_two (by omega) (by omega),if_pos h2];simp only [List.map_cons,List.map_nil];rw [show (192+(n:Int) / 64).toNat=0xC0+n / 64 by omega,show (128+(n:Int)%64).toNat=0x80+n%64 by omega]
   · rw [if_neg h2];unfold Lib.encodeRuneZ;rw [if_neg (by omega),if_neg (by omega)];by_cases h3:n<0x10000
     · rw [if_pos (by omega),if_pos h3];simp only [List.map_cons,List.map_nil];rw [show (224+(n:Int) / 4096).toNat=0xE0+n / 4096 by omega,show (128+(n:Int) / 64%64).toNat=0x80+n / 64%64 by omega,show (128+(n:Int)%64).toNat=0x80+n%64 by omega]
     · rw [if_neg (by omega),if_pos (by omega),if_neg h3];simp only [List.map_cons,List.map_nil];rw [show (240+(n:Int) / 262144).toNat=0xF0+n / 262144 by omega,show (128+(n:Int) / 4096%64).toNat=0x80+n / 4096%64 by omega,show (128+(n:Int) / 64%64).toNat=0x80+n / 64%64 by omega,show (128+(n:Int)%64).toNat=0x80+n%64 by omega]
theorem q_34 (B n:Nat) (v:Value) (l:List UInt8) (w:World) (hown:w.ownsRow B 5 1 v n (Lib.byteCells l)) (hBw:B≤w.heap.size) (hn:n≤1099511627776):
 Calls Tryz.prog 65 #[v,.int .i32 34] w fun e w'=>AppR B v w w' e (n+2) (l++[92,34]):=by
 obtain ⟨i0,hi0,hz0,hz1,hz2⟩:=info_parts Tryz.infoB;obtain ⟨ao,cap,rfl⟩:=q0m hown;have HI:=hQz (fun u=>Tryz.strings_IndexRune_ascii ⟨#[34,92,47,8,12,10,13,9]⟩ 34 u (by decide) (by decide));rw [show Lib.indexByte (ByteArray.mk #[34,92,47,8,12,10,13,9]).data.toList (34:Int).toNat.toUInt8=0 by decide] at HI;go_in;go_wp2_with fail;refine (HI.out _).mono ?_;rintro e w1 ⟨rfl,hw⟩;obtain rfl:=hw.symm;go_wp2_with (at_builtin;refine wpList_append_own _ rfl _ _ 48 rfl B 5 i0 (.int .u8 0) 1 1 Tryz.underlying48 hi0 hz0 hz1 hz2 rfl (by decide) _ _ _ rfl (hown.alloc _) ⟨w.heap.size,0,none⟩ 2 2 [.int .u8 92,.int .u8 34] rfl rfl (by intro j u hj;match j,hj with|0,hj=>simp at hj;subst hj;simp [Addr.add]|1,hj=>simp at hj;subst hj;simp [Addr.add];rfl) (by intro u hu;simp at hu;rcases hu with rfl|rfl <;> rfl) (by unfold maxLen;omega) (by omega) (by simp;omega) ?_);intro v1 w1 hown1 hgrow1 hnn;obtain ⟨so,sc,hv⟩:=q0m hown1;have HB:=hQz (q0T hown hBw (Below.refl _ _) hgrow1);have HG:=hQz (q0O hgrow1)
 have HO:Hid (w1.ownsRow B 5 1 v1 (n+2) (Lib.byteCells (l++[92,34]))):=by
  show World.ownsRow _ _ _ _ _ _ _;rw [Lib.byteCells_append];exact hown1
 subst hv;clear hown1 hgrow1 hnn hown;go_wp2_with fail;go_ret;exact ⟨_,_,rfl,HO.out,HB.out,HG.out⟩
theorem q_92 (B n:Nat) (v:Value) (l:List UInt8) (w:World) (hown:w.ownsRow B 5 1 v n (Lib.byteCells l)) (hBw:B≤w.heap.size) (hn:n≤1099511627776):
 Calls Tryz.prog 65 #[v,.int .i32 92] w fun e w'=>AppR B v w w' e (n+2) (l++[92,92]):=by
 obtain ⟨i0,hi0,hz0,hz1,hz2⟩:=info_parts Tryz.infoB;obtain ⟨ao,cap,rfl⟩:=q0m hown;have HI:=hQz (fun u=>Tryz.strings_IndexRune_ascii ⟨#[34,92,47,8,12,10,13,9]⟩ 92 u (by decide) (by decide));rw [show Lib.indexByte (ByteArray.mk #[34,92,47,8,12,10,13,9]).data.toList (92:Int).toNat.toUInt8=1 by decide] at HI;go_in;go_wp2_with fail;refine (HI.out _).mono ?_;rintro e w1 ⟨rfl,hw⟩;obtain rfl:=hw.symm;go_wp2_with (at_builtin;refine wpList_append_own _ rfl _ _ 48 rfl B 5 i0 (.int .u8 0) 1 1 Tryz.underlying48 hi0 hz0 hz1 hz2 rfl (by decide) _ _ _ rfl (hown.alloc _) ⟨w.heap.size,0,none⟩ 2 2 [.int .u8 92,.int .u8 92] rfl rfl (by intro j u hj;match j,hj with|0,hj=>simp at hj;subst hj;simp [Addr.add]|1,hj=>simp at hj;subst hj;simp [Addr.add];rfl) (by intro u hu;simp at hu;rcases hu with rfl|rfl <;> rfl) (by unfold maxLen;omega) (by omega) (by simp;omega) ?_);intro v1 w1 hown1 hgrow1 hnn;obtain ⟨so,sc,hv⟩:=q0m hown1;have HB:=hQz (q0T hown hBw (Below.refl _ _) hgrow1);have HG:=hQz (q0O hgrow1)
 have HO:Hid (w1.ownsRow B 5 1 v1 (n+2) (Lib.byteCells (l++[92,92]))):=by
  show World.ownsRow _ _ _ _ _ _ _;rw [Lib.byteCells_append];exact hown1
 subst hv;clear hown1 hgrow1 hnn hown;go_wp2_with fail;go_ret;exact ⟨_,_,rfl,HO.out,HB.out,HG.out⟩
theorem q_8 (B n:Nat) (v:Value) (l:List UInt8) (w:World) (hown:w.ownsRow B 5 1 v n (Lib.byteCells l)) (hBw:B≤w.heap.size) (hn:n≤1099511627776):
 Calls Tryz.prog 65 #[v,.int .i32 8] w fun e w'=>AppR B v w w' e (n+2) (l++[92,98]):=by
 obtain ⟨i0,hi0,hz0,hz1,hz2⟩:=info_parts Tryz.infoB;obtain ⟨ao,cap,rfl⟩:=q0m hown;have HI:=hQz (fun u=>Tryz.strings_IndexRune_ascii ⟨#[34,92,47,8,12,10,13,9]⟩ 8 u (by decide) (by decide));rw [show Lib.indexByte (ByteArray.mk #[34,92,47,8,12,10,13,9]).data.toList (8:Int).toNat.toUInt8=3 by decide] at HI;go_in;go_wp2_with fail;refine (HI.out _).mono ?_;rintro e w1 ⟨rfl,hw⟩;obtain rfl:=hw.symm;go_wp2_with (at_builtin;refine wpList_append_own _ rfl _ _ 48 rfl B 5 i0 (.int .u8 0) 1 1 Tryz.underlying48 hi0 hz0 hz1 hz2 rfl (by decide) _ _ _ rfl (hown.alloc _) ⟨w.heap.size,0,none⟩ 2 2 [.int .u8 92,.int .u8 98] rfl rfl (by intro j u hj;match j,hj with|0,hj=>simp at hj;subst hj;simp [Addr.add]|1,hj=>simp at hj;subst hj;simp [Addr.add];rfl) (by intro u hu;simp at hu;rcases hu with rfl|rfl <;> rfl) (by unfold maxLen;omega) (by omega) (by simp;omega) ?_);intro v1 w1 hown1 hgrow1 hnn;obtain ⟨so,sc,hv⟩:=q0m hown1;have HB:=hQz (q0T hown hBw (Below.refl _ _) hgrow1);have HG:=hQz (q0O hgrow1)
 have HO:Hid (w1.ownsRow B 5 1 v1 (n+2) (Lib.byteCells (l++[92,98]))):=by
  show World.ownsRow _ _ _ _ _ _ _;rw [Lib.byteCells_append];exact hown1
 subst hv;clear hown1 hgrow1 hnn hown;go_wp2_with fail;go_ret;exact ⟨_,_,rfl,HO.out,HB.out,HG.out⟩
theorem q_12 (B n:Nat) (v:Value) (l:List UInt8) (w:World) (hown:w.ownsRow B 5 1 v n (Lib.byteCells l)) (hBw:B≤w.heap.size) (hn:n≤1099511627776):
 Calls Tryz.prog 65 #[v,.int .i32 12] w fun e w'=>AppR B v w w' e (n+2) (l++[92,102]):=by
 obtain ⟨i0,hi0,hz0,hz1,hz2⟩:=info_parts Tryz.infoB;obtain ⟨ao,cap,rfl⟩:=q0m hown;have HI:=hQz (fun u=>Tryz.strings_IndexRune_ascii ⟨#[34,92,47,8,12,10,13,9]⟩ 12 u (by decide) (by decide));rw [show Lib.indexByte (ByteArray.mk #[34,92,47,8,12,10,13,9]).data.toList (12:Int).toNat.toUInt8=4 by decide] at HI;go_in;go_wp2_with fail;refine (HI.out _).mono ?_;rintro e w1 ⟨rfl,hw⟩;obtain rfl:=hw.symm;go_wp2_with (at_builtin;refine wpList_append_own _ rfl _ _ 48 rfl B 5 i0 (.int .u8 0) 1 1 Tryz.underlying48 hi0 hz0 hz1 hz2 rfl (by decide) _ _ _ rfl (hown.alloc _) ⟨w.heap.size,0,none⟩ 2 2 [.int .u8 92,.int .u8 102] rfl rfl (by intro j u hj;match j,hj with|0,hj=>simp at hj;subst hj;simp [Addr.add]|1,hj=>simp at hj;subst hj;simp [Addr.add];rfl) (by intro u hu;simp at hu;rcases hu with rfl|rfl <;> rfl) (by unfold maxLen;omega) (by omega) (by simp;omega) ?_);intro v1 w1 hown1 hgrow1 hnn;obtain ⟨so,sc,hv⟩:=q0m hown1;have HB:=hQz (q0T hown hBw (Below.refl _ _) hgrow1);have HG:=hQz (q0O hgrow1)
 have HO:Hid (w1.ownsRow B 5 1 v1 (n+2) (Lib.byteCells (l++[92,102]))):=by
  show World.ownsRow _ _ _ _ _ _ _;rw [Lib.byteCells_append];exact hown1
 subst hv;clear hown1 hgrow1 hnn hown;go_wp2_with fail;go_ret;exact ⟨_,_,rfl,HO.out,HB.out,HG.out⟩
theorem q_13 (B n:Nat) (v:Value) (l:List UInt8) (w:World) (hown:w.ownsRow B 5 1 v n (Lib.byteCells l)) (hBw:B≤w.heap.size) (hn:n≤1099511627776):
 Calls Tryz.prog 65 #[v,.int .i32 13] w fun e w'=>AppR B v w w' e (n+2) (l++[92,114]):=by
 obtain ⟨i0,hi0,hz0,hz1,hz2⟩:=info_parts Tryz.infoB;obtain ⟨ao,cap,rfl⟩:=q0m hown;have HI:=hQz (fun u=>Tryz.strings_IndexRune_ascii ⟨#[34,92,47,8,12,10,13,9]⟩ 13 u (by decide) (by decide));rw [show Lib.indexByte (ByteArray.mk #[34,92,47,8,12,10,13,9]).data.toList (13:Int).toNat.toUInt8=6 by decide] at HI;go_in;go_wp2_with fail;refine (HI.out _).mono ?_;rintro e w1 ⟨rfl,hw⟩;obtain rfl:=hw.symm;go_wp2_with (at_builtin;refine wpList_append_own _ rfl _ _ 48 rfl B 5 i0 (.int .u8 0) 1 1 Tryz.underlying48 hi0 hz0 hz1 hz2 rfl (by decide) _ _ _ rfl (hown.alloc _) ⟨w.heap.size,0,none⟩ 2 2 [.int .u8 92,.int .u8 114] rfl rfl (by intro j u hj;match j,hj with|0,hj=>simp at hj;subst hj;simp [Addr.add]|1,hj=>simp at hj;subst hj;simp [Addr.add];rfl) (by intro u hu;simp at hu;rcases hu with rfl|rfl <;> rfl) (by unfold maxLen;omega) (by omega) (by simp;omega) ?_);intro v1 w1 hown1 hgrow1 hnn;obtain ⟨so,sc,hv⟩:=q0m hown1;have HB:=hQz (q0T hown hBw (Below.refl _ _) hgrow1);have HG:=hQz (q0O hgrow1)
 have HO:Hid (w1.ownsRow B 5 1 v1 (n+2) (Lib.byteCells (l++[92,114]))):=by
  show World.ownsRow _ _ _ _ _ _ _;rw [Lib.byteCells_append];exact hown1
 subst hv;clear hown1 hgrow1 hnn hown;go_wp2_with fail;go_ret;exact ⟨_,_,rfl,HO.out,HB.out,HG.out⟩
theorem q_9 (B n:Nat) (v:Value) (l:List UInt8) (w:World) (hown:w.ownsRow B 5 1 v n (Lib.byteCells l)) (hBw:B≤w.heap.size) (hn:n≤1099511627776):
 Calls Tryz.prog 65 #[v,.int .i32 9] w fun e w'=>AppR B v w w' e (n+2) (l++[92,116]):=by
 obtain ⟨i0,hi0,hz0,hz1,hz2⟩:=info_parts Tryz.infoB;obtain ⟨ao,cap,rfl⟩:=q0m hown;have HI:=hQz (fun u=>Tryz.strings_IndexRune_ascii ⟨#[34,92,47,8,12,10,13,9]⟩ 9 u (by decide) (by decide));rw [show Lib.indexByte (ByteArray.mk #[34,92,47,8,12,10,13,9]).data.toList (9:Int).toNat.toUInt8=7 by decide] at HI;go_in;go_wp2_with fail;refine (HI.out _).mono ?_;rintro e w1 ⟨rfl,hw⟩;obtain rfl:=hw.symm;go_wp2_with (at_builtin;refine wpList_append_own _ rfl _ _ 48 rfl B 5 i0 (.int .u8 0) 1 1 Tryz.underlying48 hi0 hz0 hz1 hz2 rfl (by decide) _ _ _ rfl (hown.alloc _) ⟨w.heap.size,0,none⟩ 2 2 [.int .u8 92,.int .u8 116] rfl rfl (by intro j u hj;match j,hj with|0,hj=>simp at hj;subst hj;simp [Addr.add]|1,hj=>simp at hj;subst hj;simp [Addr.add];rfl) (by intro u hu;simp at hu;rcases hu with rfl|rfl <;> rfl) (by unfold maxLen;omega) (by omega) (by simp;omega) ?_);intro v1 w1 hown1 hgrow1 hnn;obtain ⟨so,sc,hv⟩:=q0m hown1;have HB:=hQz (q0T hown hBw (Below.refl _ _) hgrow1);have HG:=hQz (q0O hgrow1)
 have HO:Hid (w1.ownsRow B 5 1 v1 (n+2) (Lib.byteCells (l++[92,116]))):=by
  show World.ownsRow _ _ _ _ _ _ _;rw [Lib.byteCells_append];exact hown1
 subst hv;clear hown1 hgrow1 hnn hown;go_wp2_with fail;go_ret;exact ⟨_,_,rfl,HO.out,HB.out,HG.out⟩
theorem q_number (B n:Nat) (v:Value) (l:List UInt8) (r:Nat) (w:World) (hown:w.ownsRow B 5 1 v n (Lib.byteCells l)) (hBw:B≤w.heap.size) (hn:n≤1099511627776) (hr:sgn r=none) (hr2:r<32∨r=127):
 Calls Tryz.prog 65 #[v,.int .i32 (r:Int)] w fun e w'=>AppR B v w w' e (n+6) (l++unit r):=by
 obtain ⟨i0,hi0,hz0,hz1,hz2⟩:=info_parts Tryz.infoB;obtain ⟨ao,cap,rfl⟩:=q0m hown;have HN:=hQz (fun u=>w_byNumber r u (by omega));have hul:(unit r).length=6:=rfl;generalize unit r=ul at *;obtain ⟨us,hus⟩:∃ us:ByteArray,us=⟨ul.toArray⟩:=⟨_,rfl⟩;rw [← hus] at HN;have hs6:us.size=6:=by rw [hus];simp [ByteArray.size,hul]
 have HC:Hid (Lib.strCells us=Lib.byteCells ul):=by show _=_;rw [hus];rfl
 clear hus hul;have HO:=hQz hown;clear hown;rcases hr2 with h32|h127
 · have HI:=hQz (fun u=>Tryz.strings_IndexRune_ascii ⟨#[34,92,47,8,12,10,13,9]⟩ (r:Int) u (by omega) (by omega));have hidx:∀ m,m<32→sgn m=none→Lib.indexByte (ByteArray.mk #[34,92,47,8,12,10,13,9]).data.toList ((m:Nat):Int).toNat.toUInt8= -1:=by decide
   rw [hidx r h32 hr] at HI;have q1:((r:Int)==34)=false:=by rw [bqZ];omega
   have q2:((r:Int)==92)=false:=by rw [bqZ];omega
   have q3:(r:Int)<32:=by omega
   clear hidx hr;go_in;go_wp2_with fail;refine (HI.out _).mono ?_;rintro e w1 ⟨rfl,hw⟩;obtain rfl:=hw.symm;go_wp2_with fail;refine (HN.out _).mono ?_;rintro e w1 ⟨rfl,hb1⟩;have hown1:=own_below HO.out hb1;have hBw1:B≤w1.heap.size:=Nat.le_trans hBw hb1.size;have HG1:=hQz (below_grown hb1 (Value.slice ao n cap).ownBlock);have HB1:Hid (Below B w w1):=hb1.mono hBw;clear hb1;go_wp2_with (at_builtin;refine Lib.wpList_append_own_string _ rfl _ _ 48 9 rfl B 5 i0 Tryz.underlying48 Tryz.underlying9 hi0 hz0 hz1 hz2 _ _ _ rfl hown1 us rfl (by unfold maxLen;omega) (by omega) hBw1 ?_);intro v2 w2 hown2 hgrow2 hnn;rw [HC.out] at hown2;obtain ⟨so,sc,hv⟩:=q0m hown2
   have HF:Hid (AppR B (.slice ao n cap) w w2 (.returned v2) (n+6) (l++ul)):=by
    subst hv;exact ⟨so,sc,rfl,by rw [Lib.byteCells_append];exact hown2,HB1.out.trans ((Below.refl B w1).grown hgrow2 hBw1 (own_base hown1)),q2n HG1.out hgrow2⟩
   subst hv;clear hown2 hgrow2 hnn hown1;go_wp2_with fail;go_ret;exact HF.out
 · subst h127;clear hr;go_in;go_wp2_with fail;refine (HN.out _).mono ?_;rintro e w1 ⟨rfl,hb1⟩;have hown1:=own_below HO.out hb1;have hBw1:B≤w1.heap.size:=Nat.le_trans hBw hb1.size;have HG1:=hQz (below_grown hb1 (Value.slice ao n cap).ownBlock);have HB1:Hid (Below B w w1):=hb1.mono hBw;clear hb1;go_wp2_with (at_builtin;refine Lib.wpList_append_own_string _ rfl _ _ 48 9 rfl B 5 i0 Tryz.underlying48 Tryz.underlying9 hi0 hz0 hz1 hz2 _ _ _ rfl hown1 us rfl (by unfold maxLen;omega) (by omega) hBw1 ?_);intro v2 w2 hown2 hgrow2 hnn;rw [HC.out] at hown2;obtain ⟨so,sc,hv⟩:=q0m hown2
   have HF:Hid (AppR B (.slice ao n cap) w w2 (.returned v2) (n+6) (l++ul)):=by
    subst hv;exact ⟨so,sc,rfl,by rw [Lib.byteCells_append];exact hown2,HB1.out.trans ((Below.refl B w1).grown hgrow2 hBw1 (own_base hown1)),q2n HG1.out hgrow2⟩
   subst hv;clear hown2 hgrow2 hnn hown1;go_wp2_with fail;go_ret;exact HF.out
theorem q_plain (B n:Nat) (v:Value) (l:List UInt8) (r:Nat) (w:World) (hown:w.ownsRow B 5 1 v n (Lib.byteCells l)) (hBw:B≤w.heap.size) (hn:n≤1099511627776) (hR:isR r) (hr:sgn r=none) (hr2:¬ (r<32∨r=127)):
 Calls Tryz.prog 65 #[v,.int .i32 (r:Int)] w fun e w'=>AppR B v w w' e (n+(enc r).length) (l++enc r):=by
 have hlt:r≤1114111:=by unfold isR at hR;omega
 have hne:r≠34∧r≠92:=by
  constructor
  · intro e;subst e;exact absurd hr (by decide)
  · intro e;subst e;exact absurd hr (by decide)
 have HA:=hQz (Tryz.utf8_AppendRune_plain B v n (Lib.byteCells l) (r:Int) (by omega) (by omega) w hown (by omega) hBw);have hcells:Lib.runeCells (r:Int)=Lib.byteCells (enc r):=by rw [← Lib.byteCells_encodeRune,q2i r hR]
 have hlen:(Lib.byteCells (enc r)).length=(enc r).length:=by simp [Lib.byteCells]
 rw [hcells,hlen] at HA;obtain ⟨ao,cap,rfl⟩:=q0m hown;have q1:((r:Int)==34)=false:=by rw [bqZ];omega
 have q2:((r:Int)==92)=false:=by rw [bqZ];omega
 have q3:¬ (r:Int)<32:=by omega
 have q4:((r:Int)==127)=false:=by rw [bqZ];omega
 have HO:=hQz hown;clear hne hr hcells hlen hr2 hown;go_in;go_wp2_with fail;refine HA.out.mono ?_;rintro e w1 ⟨v1,rfl,hown1,o,hg1⟩;obtain ⟨so,sc,hv⟩:=q0m hown1
 have HF:Hid (AppR B (.slice ao n cap) w w1 (.returned v1) (n+(enc r).length) (l++enc r)):=by
  subst hv;exact ⟨so,sc,rfl,by rw [Lib.byteCells_append];exact hown1,q0T HO.out hBw (Below.refl _ _) hg1,q0O hg1⟩
 subst hv;clear hown1 hg1;go_wp2_with fail;go_ret;exact HF.out
theorem w_appendQuoted (B n:Nat) (v:Value) (l:List UInt8) (r:Nat) (w:World) (hown:w.ownsRow B 5 1 v n (Lib.byteCells l)) (hBw:B≤w.heap.size) (hn:n≤1099511627776) (hR:isR r):
 Calls Tryz.prog 65 #[v,.int .i32 (r:Int)] w fun e w'=>AppR B v w w' e (n+(qd r).length) (l++qd r):=by
 by_cases h34:r=34
 · subst h34;exact q_34 B n v l w hown hBw hn
 by_cases h92:r=92
 · subst h92;exact q_92 B n v l w hown hBw hn
 by_cases h8:r=8
 · subst h8;exact q_8 B n v l w hown hBw hn
 by_cases h12:r=12
 · subst h12;exact q_12 B n v l w hown hBw hn
 by_cases h10:r=10
 · subst h10;exact f_appendQuoted B n v l w hown hBw hn
 by_cases h13:r=13
 · subst h13;exact q_13 B n v l w hown hBw hn
 by_cases h9:r=9
 · subst h9;exact q_9 B n v l w hown hBw hn
 have hs:sgn r=none:=by simp [sgn,h34,h92,h8,h12,h10,h13,h9]
 by_cases h:r<32∨r=127
 · have e:qd r=unit r:=by unfold qd;rw [hs];simp [h]
   rw [e];exact q_number B n v l r w hown hBw hn hs h
 · have e:qd r=enc r:=by unfold qd;rw [hs];simp [h]
   rw [e];exact q_plain B n v l r w hown hBw hn hR hs h
def qb (zs:List Nat):List UInt8:=zs.flatMap qd
theorem qb_cons (z:Nat) (r:List Nat):qb (z::r)=qd z++qb r:=rfl
theorem q1s {w:World} {k:Nat} {s:ByteArray} {p:Nat} (h:w.heap[k]? =some (.stringIter s p)):w.iterPos k=p:=by simp [World.iterPos,h]
theorem drop_ne' {s:ByteArray} {p:Nat} (h:p<s.size):s.data.toList.drop p≠[]:=by
 intro e;have:=congrArg List.length e;rw [List.length_drop,Array.length_toList,List.length_nil] at this;have e2:s.data.size=s.size:=rfl;omega
theorem step_le' {s:ByteArray} {p:Nat} (h:p<s.size):p+(decL (s.data.toList.drop p)).2≤s.size:=by
 have:=decL_le _ (drop_ne' h);rw [List.length_drop,Array.length_toList] at this;have e2:s.data.size=s.size:=rfl;omega
theorem drop_all' {s:ByteArray} {p:Nat} (h:¬ p<s.size):s.data.toList.drop p=[]:=List.drop_eq_nil_of_le (by simp;omega)
structure QuSt (B k0:Nat) (w wr:World) (v:Value) (n:Nat) (s:ByteArray) (pos:Nat):Prop where
 iter:wr.heap[k0]? =some (.stringIter s pos)
 own:∃ l,l.length=n∧wr.ownsRow B 5 1 v n (Lib.byteCells l)∧l++qb (q18 (s.data.toList.drop pos))=34::qb (q18 s.data.toList)
 below:Below B w wr
theorem w_Quote (s:ByteArray) (w:World) (hs:s.size≤68719476736):
 Calls Tryz.prog 36 #[.string s] w fun e w'=>e= .returned (.string ⟨(34::(qb (q18 s.data.toList)++[34])).toArray⟩)∧Below w.heap.size w w':=by
 obtain ⟨i0,hi0,hz0,hz1,hz2⟩:=info_parts Tryz.infoB;have hmk:=fun (u:World)=>run_make_bytes (s.size+2) ((s.size:Int)+2) (by omega) (by omega) u;have hown0:=own_bytes w (s.size+2) (by omega)
 have hnews:∀ (j:Nat) (u:Value),([.int .u8 34]:List Value)[j]? =some u→((w.alloc (brow (s.size+2))).alloc (.cells #[.int .u8 34] 5)).cell? ((⟨w.heap.size+1,0,none⟩:Addr).add j)=some u:=by
  intro j u hj
  match j,hj with
  | 0,hj=>
   simp at hj;subst hj;have h:=heap_alloc_new (w.alloc (brow (s.size+2))) (.cells #[.int .u8 34] 5);rw [World.size_alloc] at h;show World.cell? _ ⟨w.heap.size+1,0,none⟩=_;rw [cell_of_row _ _ _ _ _ _ h];rfl
 go_in;go_wp2_with (at_builtin;refine wpList_append_own _ rfl (.tmp 10) (.tmp 11) 48 rfl w.heap.size 5 i0 (.int .u8 0) 1 1 Tryz.underlying48 hi0 hz0 hz1 hz2 rfl (by decide) _ _ _ rfl (hown0.alloc _) ⟨w.heap.size+1,0,none⟩ 1 1 [.int .u8 34] rfl rfl hnews (by intro u hu;simp at hu;subst hu;rfl) (by decide) (by omega) (by simp;omega) ?_);intro v1 w1 hown1 hgrow1 hnn;obtain ⟨so,sc,hv⟩:=q0m hown1;have HB1:Hid (Below w.heap.size w w1):=q0T hown0 (by simp) (q0a w _) hgrow1;have HO1:Hid (w1.ownsRow w.heap.size 5 1 v1 1 (Lib.byteCells [34])):=hown1;subst hv;clear hown1 hgrow1 hnn hown0 hmk hnews
 have HS:Hid (QuSt w.heap.size w1.heap.size w (w1.iter s 0) (.slice so 1 sc) 1 s 0):=
  ⟨World.iter_heap w1 s 0,⟨[34],rfl,HO1.out.alloc _,rfl⟩,HB1.out.alloc HB1.out.size _⟩
 clear HO1;obtain ⟨k0,hk0⟩:∃ k0,k0=w1.heap.size:=⟨_,rfl⟩;rw [← hk0] at HS;go_wp2_with fail;rw [← hk0];have HWK:Hid (w.heap.size≤k0):=by show _≤_;rw [hk0];exact HB1.out.size
 clear hk0 HB1
 go_loopw [3,5] (fun l _ wr=>∃ (pos n:Nat) (ao:Option Addr) (cap:Nat),pos≤s.size∧n≤1+6*pos∧l= .slice ao n cap∧Hid (QuSt w.heap.size k0 w wr (.slice ao n cap) n s pos)) (fun _ _ wr=>s.size-wr.iterPos k0)
 case atStart=>exact ⟨0,1,so,sc,Nat.zero_le _,by omega,rfl,HS⟩
 case round=>
  obtain ⟨pos,n,ao,cap,hpos,hn,rfl,HQ⟩:=hrel;have hkr:=HQ.out.iter;have HM:Hid (wr.iterPos k0=pos):=q1s hkr;by_cases hp:pos<s.size
  · obtain ⟨q,hq⟩:∃ q,q=pos+(decL (s.data.toList.drop pos)).2:=⟨_,rfl⟩;obtain ⟨r,hr⟩:∃ r,r=(decL (s.data.toList.drop pos)).1:=⟨_,rfl⟩;have h1:=q1D (s.data.toList.drop pos);have h2:=step_le' hp;have hR:=decL_isR _ (drop_ne' hp)
    have hdr:q18 (s.data.toList.drop pos)=r::q18 (s.data.toList.drop q):=by
     rw [runes_cons (drop_ne' hp),List.drop_drop,← hq,← hr]
    obtain ⟨W1,hW1⟩:∃ W:World,W=wr.iterAt k0 s q:=⟨_,rfl⟩;have hn1:=nxtAt wr k0 s pos r q hkr hp (by rw [decode_eq s pos hpos];exact Prod.ext hr.symm (by show _=q-pos;omega)) (by omega);have hk1:=Lib.iterAt_heap wr k0 s pos q hkr;obtain ⟨l,hl,hown,hlq⟩:=HQ.out.own;have ho1:=own_iterAt hown hkr q;have hwk:=HWK.out;have hB1:=Lib.below_iterAt HQ.out.below hwk s q;rw [← hW1] at hn1 hk1 ho1 hB1;rw [← hr] at hR;rw [← hq] at h2;clear hW1;have HCall:=hQz (w_appendQuoted w.heap.size n (.slice ao n cap) l r W1 ho1 hB1.size (by omega) hR);have HK1:=hQz hk1;have HO1:=hQz ho1;have HBW:=hQz hB1
    have HX:Hid ((l++qd r)++qb (q18 (s.data.toList.drop q))=34::qb (q18 s.data.toList)):=by
     show _=_;rw [← hlq,hdr,qb_cons,List.append_assoc]
    have hqd:=qd_len r;have HL:=hQz hl;clear hk1 ho1 hB1 hlq hdr hown hl hR hr;have hq1:pos+1≤q:=by omega
    clear hq h1;go_wp2_with fail;refine HCall.out.mono ?_;rintro e w3 ⟨ro,rc,rfl,hown3,hb3,hg3⟩
    have HN:Hid (QuSt w.heap.size k0 w w3 (.slice ro (n+(qd r).length) rc) (n+(qd r).length) s q):=
     ⟨iter_kept HO1.out HK1.out hg3,⟨l++qd r,by rw [List.length_append,HL.out],hown3,HX.out⟩,HBW.out.trans hb3⟩
    have HM3:Hid (w3.iterPos k0=q):=q1s HN.out.iter;clear hown3 hb3 hg3 HCall;go_wp2_with fail;go_roundw
    case rel=>exact ⟨q,n+(qd r).length,ro,rc,h2,by omega,rfl,HN⟩
    case measure=>rw [HM3.out,HM.out];omega
  · have hne:=fun ty=>Lib.run_next_end_at (P:=Tryz.prog) wr k0 s pos ty hkr hp;obtain ⟨l,hl,hown,hlq⟩:=HQ.out.own;rw [drop_all' hp,runes_nil] at hlq;have hlq2:l=34::qb (q18 s.data.toList):=by rw [← hlq];simp [qb]
    have hsz:=HQ.out.below.size;have HLQ:=hQz hlq2;clear hlq hkr hlq2;go_wp2_with (at_builtin;refine wpList_append_own _ rfl (.tmp 21) (.tmp 22) 48 rfl w.heap.size 5 i0 (.int .u8 0) 1 1 Tryz.underlying48 hi0 hz0 hz1 hz2 rfl (by decide) _ _ _ rfl (hown.alloc _) ⟨wr.heap.size,0,none⟩ 1 1 [.int .u8 34] rfl rfl (by intro j u hj;match j,hj with|0,hj=>simp at hj;subst hj;simp [Addr.add]) (by intro u hu;simp at hu;subst hu;rfl) (by unfold maxLen;omega) (by omega) (by simp;omega) ?_);intro v4 w4 hown4 hgrow4 hnn;have hown4:w4.ownsRow w.heap.size 5 1 v4 (n+1) (Lib.byteCells (l++[34])):=by rw [Lib.byteCells_append];exact hown4
    obtain ⟨g4,c4,hv4⟩:=own_some hown4 (Nat.succ_pos _);have HB4:Hid (Below w.heap.size w w4):=q0T hown HQ.out.below.size HQ.out.below hgrow4;subst hv4;have hcv:=bytes_conv (n:=n+1) (l:=l++[34]) (by rw [List.length_append,hl];rfl) hown4;have HE:Hid (l++[34]=34::(qb (q18 s.data.toList)++[34])):=by show _=_;rw [HLQ.out];rfl
    clear hown4 hgrow4 hnn hown hne;go_wp2_with fail;go_ret;exact ⟨by rw [HE.out];rfl,HB4.out⟩
def txt (zs:List Nat):List UInt8:=zs.flatMap enc
def okB (l:List UInt8):Bool:=decide (txt (q18 l)=l)
theorem ok_nil:okB []=true:=by decide
theorem ok_enc (n:Nat) (hn:isR n) (post:List UInt8):okB (enc n++post)=okB post:=by
 unfold okB;rw [runes_enc n hn post];have e:txt (n::q18 post)=enc n++txt (q18 post):=rfl;rw [e];by_cases h:txt (q18 post)=post
 · rw [decide_eq_true h,decide_eq_true (by rw [h])]
 · rw [decide_eq_false h,decide_eq_false (fun h2=>h (List.append_cancel_left h2))]
theorem ok_stray (l:List UInt8) (h:l≠[]) (e:decL l=(65533,1)):okB l=false:=by
 unfold okB;refine decide_eq_false fun h2=> ?_;rw [runes_cons h,e] at h2;have e2:l=enc 65533++txt (q18 (l.drop 1)):=h2.symm;have hd:=q1K 65533 (by unfold isR;omega) (txt (q18 (l.drop 1)));rw [← e2,e,q2t] at hd
 cases hd
theorem rn_nat {n:Nat} (h:isR n):rn (n:Int)=n:=by
 unfold rn;rw [← valid_rn,valid_of h];simp
theorem w_stray (s:ByteArray) (p r:Nat) (w:World) (hp:p≤s.size):
 Calls Tryz.prog 63 #[.string s,.int .i64 (p:Int),.int .i32 (r:Int)] w fun e w'=>e= .returned (.bool (r==65533&& !(Lib.hasPrefix (s.data.toList.drop p) [239,191,189])))∧w'=w:=by
 have hpi:(p:Int)≤(s.size:Int):=by omega
 have HP:=hQz (fun u=>Tryz.strings_HasPrefix (s.extract p s.size) ⟨#[239,191,189]⟩ u);rw [q0M] at HP;by_cases hr:r=65533
 · subst hr;generalize s.data.toList.drop p=l at *;go_in;go_wp2_with fail;refine (HP.out _).mono ?_;rintro e w1 ⟨rfl,hw⟩;obtain rfl:=hw.symm;go_wp2_with fail;go_ret;exact ⟨by first|rfl|simp,rfl⟩
 · have hr2:(((r:Nat):Int)==65533)=false:=by rw [bqZ];omega
   rw [show (r==65533)=false from bqZ.2 hr];exact w_stray_no s (p:Int) (r:Int) w hr2
theorem nxt2 (w:World) (s:ByteArray) (p:Nat) (ty:TypeId) (h:p<s.size):
 (Instr.next (.pointer (some ⟨w.heap.size,0,none⟩)) true ty).run Tryz.prog (w.iter s p)= .ok (.tuple #[.bool true,.int .i64 (p:Int),.int .i32 ((decL (s.data.toList.drop p)).1:Int)]) (w.iter s (p+(decL (s.data.toList.drop p)).2)):=by
 have:=run_next_any (P:=Tryz.prog) w s p ty h;rw [decode_eq s p (by omega)] at this;exact this
theorem drop_ne {s:ByteArray} {p:Nat} (h:p<s.size):s.data.toList.drop p≠[]:=by
 intro e;have:=congrArg List.length e;rw [List.length_drop,Array.length_toList,List.length_nil] at this;have e2:s.data.size=s.size:=rfl;omega
theorem drop_all {s:ByteArray} {p:Nat} (h:¬ p<s.size):s.data.toList.drop p=[]:=List.drop_eq_nil_of_le (by simp;omega)
theorem step_le {s:ByteArray} {p:Nat} (h:p<s.size):p+(decL (s.data.toList.drop p)).2≤s.size:=by
 have:=decL_le _ (drop_ne h);rw [List.length_drop,Array.length_toList] at this;have e2:s.data.size=s.size:=rfl;omega
theorem q1I (s:ByteArray) (w:World) (hs:s.size≤9223372036854775806):
 Calls Tryz.prog 34 #[.string s] w fun e w'=>e= .returned (.bool (okB s.data.toList))∧Below w.heap.size w w':=by
 go_in;go_wp2_with fail
 go_loopw [3,4] (fun _ _ wr=>∃ (pos:Nat),wr=w.iter s pos∧pos≤s.size∧Hid (okB s.data.toList=okB (s.data.toList.drop pos))) (fun _ _ wr=>s.size-wr.iterPos w.heap.size)
 case atStart=>exact ⟨0,rfl,Nat.zero_le _,by show _=_;rw [List.drop_zero]⟩
 case round=>
  obtain ⟨pos,rfl,hpos,HR⟩:=hrel;by_cases hp:pos<s.size
  · have hnx:∀ ty,_:=fun ty=>nxt2 w s pos ty hp;have H1:=hQz (q1D (s.data.toList.drop pos));have H2:=hQz (step_le hp);have HS:=hQz (fun u=>w_stray s pos (decL (s.data.toList.drop pos)).1 u hpos);rcases stray_or _ (drop_ne hp) with ⟨n,post,hn,he,hst⟩|⟨he,hst⟩
    · have H3:Hid (okB (s.data.toList.drop pos)=okB (s.data.toList.drop (pos+(decL (s.data.toList.drop pos)).2))):=by
       show _=_
       have e2:s.data.toList.drop (pos+(decL (s.data.toList.drop pos)).2)=post:=by
        rw [← List.drop_drop,he,q1K n hn post,List.drop_append_of_le_length (Nat.le_refl _),List.drop_length];rfl
       rw [e2,he,ok_enc n hn]
      have HT:=hQz hst;clear he hst;go_wp2_with fail;refine (HS.out _).mono ?_;rintro e w1 ⟨rfl,hw⟩;obtain rfl:=hw.symm;have ht:=HT.out;unfold q0R at ht;rw [ht];clear ht;go_wp2_with fail;go_roundw
      case rel=>exact ⟨_,rfl,H2.out,by show _=_;rw [HR.out,H3.out]⟩
      case measure=>
       have:=H1.out;have:=H2.out;simp;omega
    · have HF:Hid (okB s.data.toList=false):=by show _=_;rw [HR.out,ok_stray _ (drop_ne hp) he]
      have HT:=hQz hst;clear he hst;go_wp2_with fail;refine (HS.out _).mono ?_;rintro e w1 ⟨rfl,hw⟩;obtain rfl:=hw.symm;have ht:=HT.out;unfold q0R at ht;rw [ht];clear ht;go_wp2_with fail;go_ret;exact ⟨by rw [HF.out];rfl,iter_below w s _⟩
  · have hnx:=fun ty=>run_next_end (P:=Tryz.prog) w s pos ty hp;have HF:Hid (okB s.data.toList=true):=by show _=_;rw [HR.out,drop_all hp];exact ok_nil
    go_wp2_with fail;go_ret;exact ⟨by rw [HF.out];rfl,iter_below w s _⟩
theorem s_34 (s:ByteArray) (k:Nat) (post:List UInt8) (w:World) (hd:s.data.toList.drop k=92::34::post) (hs:s.size≤4611686018427387904):
 Calls Tryz.prog 216 #[.string s,.int .i64 (k:Int)] w fun e w'=>e= .returned (.tuple #[.int .i32 34,.bool true])∧w'=w:=by
 have hlt:k+2≤s.size:=by
  have:=congrArg List.length hd;rw [List.length_drop,Array.length_toList] at this;have e2:s.data.size=s.size:=rfl;simp only [List.length_cons] at this;omega
 have hk0:k<s.size:=by omega
 have hk1:k+1<s.size:=by omega
 have g0:s[k]=92:=q1o hd hk0;have g1:s[k+1]=34:=q1o (q1i hd) hk1;have hi0:(k:Int)<(s.size:Int):=by omega
 have hi1:(k:Int)+1<(s.size:Int):=by omega
 have hne:((k:Int)+1==(s.size:Int))=false:=by rw [bqZ];omega
 have HI:=hQz (fun u=>Tryz.strings_IndexByte ⟨#[34,92,47,98,102,110,114,116]⟩ 34 u);rw [show Lib.indexByte (ByteArray.mk #[34,92,47,98,102,110,114,116]).data.toList (34:Int).toNat.toUInt8=0 by decide] at HI;clear hd;go_in;go_wp2_with fail;refine (HI.out _).mono ?_;rintro e w1 ⟨rfl,hw⟩;obtain rfl:=hw.symm;go_wp2_with fail
 go_ret2
 have hw:wrap32 34=34:=by first|decide|rfl|simp [wrap32]
 exact ⟨by show Ending.returned (.tuple #[.int .i32 (wrap32 34),.bool true])=_;rw [hw],rfl⟩
theorem s_92 (s:ByteArray) (k:Nat) (post:List UInt8) (w:World) (hd:s.data.toList.drop k=92::92::post) (hs:s.size≤4611686018427387904):
 Calls Tryz.prog 216 #[.string s,.int .i64 (k:Int)] w fun e w'=>e= .returned (.tuple #[.int .i32 92,.bool true])∧w'=w:=by
 have hlt:k+2≤s.size:=by
  have:=congrArg List.length hd;rw [List.length_drop,Array.length_toList] at this;have e2:s.data.size=s.size:=rfl;simp only [List.length_cons] at this;omega
 have hk0:k<s.size:=by omega
 have hk1:k+1<s.size:=by omega
 have g0:s[k]=92:=q1o hd hk0;have g1:s[k+1]=92:=q1o (q1i hd) hk1;have hi0:(k:Int)<(s.size:Int):=by omega
 have hi1:(k:Int)+1<(s.size:Int):=by omega
 have hne:((k:Int)+1==(s.size:Int))=false:=by rw [bqZ];omega
 have HI:=hQz (fun u=>Tryz.strings_IndexByte ⟨#[34,92,47,98,102,110,114,116]⟩ 92 u);rw [show Lib.indexByte (ByteArray.mk #[34,92,47,98,102,110,114,116]).data.toList (92:Int).toNat.toUInt8=1 by decide] at HI;clear hd;go_in;go_wp2_with fail;refine (HI.out _).mono ?_;rintro e w1 ⟨rfl,hw⟩;obtain rfl:=hw.symm;go_wp2_with fail
 go_ret2
 have hw:wrap32 92=92:=by first|decide|rfl|simp [wrap32]
 exact ⟨by show Ending.returned (.tuple #[.int .i32 (wrap32 92),.bool true])=_;rw [hw],rfl⟩
theorem s_8 (s:ByteArray) (k:Nat) (post:List UInt8) (w:World) (hd:s.data.toList.drop k=92::98::post) (hs:s.size≤4611686018427387904):
 Calls Tryz.prog 216 #[.string s,.int .i64 (k:Int)] w fun e w'=>e= .returned (.tuple #[.int .i32 8,.bool true])∧w'=w:=by
 have hlt:k+2≤s.size:=by
  have:=congrArg List.length hd;rw [List.length_drop,Array.length_toList] at this;have e2:s.data.size=s.size:=rfl;simp only [List.length_cons] at this;omega
 have hk0:k<s.size:=by omega
 have hk1:k+1<s.size:=by omega
 have g0:s[k]=92:=q1o hd hk0;have g1:s[k+1]=98:=q1o (q1i hd) hk1;have hi0:(k:Int)<(s.size:Int):=by omega
 have hi1:(k:Int)+1<(s.size:Int):=by omega
 have hne:((k:Int)+1==(s.size:Int))=false:=by rw [bqZ];omega
 have HI:=hQz (fun u=>Tryz.strings_IndexByte ⟨#[34,92,47,98,102,110,114,116]⟩ 98 u);rw [show Lib.indexByte (ByteArray.mk #[34,92,47,98,102,110,114,116]).data.toList (98:Int).toNat.toUInt8=3 by decide] at HI;clear hd;go_in;go_wp2_with fail;refine (HI.out _).mono ?_;rintro e w1 ⟨rfl,hw⟩;obtain rfl:=hw.symm;go_wp2_with fail
 go_ret2
 have hw:wrap32 8=8:=by first|decide|rfl|simp [wrap32]
 exact ⟨by show Ending.returned (.tuple #[.int .i32 (wrap32 8),.bool true])=_;rw [hw],rfl⟩
theorem s_12 (s:ByteArray) (k:Nat) (post:List UInt8) (w:World) (hd:s.data.toList.drop k=92::102::post) (hs:s.size≤4611686018427387904):
 Calls Tryz.prog 216 #[.string s,.int .i64 (k:Int)] w fun e w'=>e= .returned (.tuple #[.int .i32 12,.bool true])∧w'=w:=by
 have hlt:k+2≤s.size:=by
  have:=congrArg List.length hd;rw [List.length_drop,Array.length_toList] at this;have e2:s.data.size=s.size:=rfl;simp only [List.length_cons] at this;omega
 have hk0:k<s.size:=by omega
 have hk1:k+1<s.size:=by omega
 have g0:s[k]=92:=q1o hd hk0;have g1:s[k+1]=102:=q1o (q1i hd) hk1;have hi0:(k:Int)<(s.size:Int):=by omega
 have hi1:(k:Int)+1<(s.size:Int):=by omega
 have hne:((k:Int)+1==(s.size:Int))=false:=by rw [bqZ];omega
 have HI:=hQz (fun u=>Tryz.strings_IndexByte ⟨#[34,92,47,98,102,110,114,116]⟩ 102 u);rw [show Lib.indexByte (ByteArray.mk #[34,92,47,98,102,110,114,116]).data.toList (102:Int).toNat.toUInt8=4 by decide] at HI;clear hd;go_in;go_wp2_with fail;refine (HI.out _).mono ?_;rintro e w1 ⟨rfl,hw⟩;obtain rfl:=hw.symm;go_wp2_with fail
 go_ret2
 have hw:wrap32 12=12:=by first|decide|rfl|simp [wrap32]
 exact ⟨by show Ending.returned (.tuple #[.int .i32 (wrap32 12),.bool true])=_;rw [hw],rfl⟩
theorem s_10 (s:ByteArray) (k:Nat) (post:List UInt8) (w:World) (hd:s.data.toList.drop k=92::110::post) (hs:s.size≤4611686018427387904):
 Calls Tryz.prog 216 #[.string s,.int .i64 (k:Int)] w fun e w'=>e= .returned (.tuple #[.int .i32 10,.bool true])∧w'=w:=by
 have hlt:k+2≤s.size:=by
  have:=congrArg List.length hd;rw [List.length_drop,Array.length_toList] at this;have e2:s.data.size=s.size:=rfl;simp only [List.length_cons] at this;omega
 have hk0:k<s.size:=by omega
 have hk1:k+1<s.size:=by omega
 have g0:s[k]=92:=q1o hd hk0;have g1:s[k+1]=110:=q1o (q1i hd) hk1;have hi0:(k:Int)<(s.size:Int):=by omega
 have hi1:(k:Int)+1<(s.size:Int):=by omega
 have hne:((k:Int)+1==(s.size:Int))=false:=by rw [bqZ];omega
 have HI:=hQz (fun u=>Tryz.strings_IndexByte ⟨#[34,92,47,98,102,110,114,116]⟩ 110 u);rw [show Lib.indexByte (ByteArray.mk #[34,92,47,98,102,110,114,116]).data.toList (110:Int).toNat.toUInt8=5 by decide] at HI;clear hd;go_in;go_wp2_with fail;refine (HI.out _).mono ?_;rintro e w1 ⟨rfl,hw⟩;obtain rfl:=hw.symm;go_wp2_with fail
 go_ret2
 have hw:wrap32 10=10:=by first|decide|rfl|simp [wrap32]
 exact ⟨by show Ending.returned (.tuple #[.int .i32 (wrap32 10),.bool true])=_;rw [hw],rfl⟩
theorem s_13 (s:ByteArray) (k:Nat) (post:List UInt8) (w:World) (hd:s.data.toList.drop k=92::114::post) (hs:s.size≤4611686018427387904):
 Calls Tryz.prog 216 #[.string s,.int .i64 (k:Int)] w fun e w'=>e= .returned (.tuple #[.int .i32 13,.bool true])∧w'=w:=by
 have hlt:k+2≤s.size:=by
  have:=congrArg List.length hd;rw [List.length_drop,Array.length_toList] at this;have e2:s.data.size=s.size:=rfl;simp only [List.length_cons] at this;omega
 have hk0:k<s.size:=by omega
 have hk1:k+1<s.size:=by omega
 have g0:s[k]=92:=q1o hd hk0;have g1:s[k+1]=114:=q1o (q1i hd) hk1;have hi0:(k:Int)<(s.size:Int):=by omega
 have hi1:(k:Int)+1<(s.size:Int):=by omega
 have hne:((k:Int)+1==(s.size:Int))=false:=by rw [bqZ];omega
 have HI:=hQz (fun u=>Tryz.strings_IndexByte ⟨#[34,92,47,98,102,110,114,116]⟩ 114 u);rw [show Lib.indexByte (ByteArray.mk #[34,92,47,98,102,110,114,116]).data.toList (114:Int).toNat.toUInt8=6 by decide] at HI;clear hd;go_in;go_wp2_with fail;refine (HI.out _).mono ?_;rintro e w1 ⟨rfl,hw⟩;obtain rfl:=hw.symm;go_wp2_with fail
 go_ret2
 have hw:wrap32 13=13:=by first|decide|rfl|simp [wrap32]
 exact ⟨by show Ending.returned (.tuple #[.int .i32 (wrap32 13),.bool true])=_;rw [hw],rfl⟩
theorem s_9 (s:ByteArray) (k:Nat) (post:List UInt8) (w:World) (hd:s.data.toList.drop k=92::116::post) (hs:s.size≤4611686018427387904):
 Calls Tryz.prog 216 #[.string s,.int .i64 (k:Int)] w fun e w'=>e= .returned (.tuple #[.int .i32 9,.bool true])∧w'=w:=by
 have hlt:k+2≤s.size:=by
  have:=congrArg List.length hd;rw [List.length_drop,Array.length_toList] at this;have e2:s.data.size=s.size:=rfl;simp only [List.length_cons] at this;omega
 have hk0:k<s.size:=by omega
 have hk1:k+1<s.size:=by omega
 have g0:s[k]=92:=q1o hd hk0;have g1:s[k+1]=116:=q1o (q1i hd) hk1;have hi0:(k:Int)<(s.size:Int):=by omega
 have hi1:(k:Int)+1<(s.size:Int):=by omega
 have hne:((k:Int)+1==(s.size:Int))=false:=by rw [bqZ];omega
 have HI:=hQz (fun u=>Tryz.strings_IndexByte ⟨#[34,92,47,98,102,110,114,116]⟩ 116 u);rw [show Lib.indexByte (ByteArray.mk #[34,92,47,98,102,110,114,116]).data.toList (116:Int).toNat.toUInt8=7 by decide] at HI;clear hd;go_in;go_wp2_with fail;refine (HI.out _).mono ?_;rintro e w1 ⟨rfl,hw⟩;obtain rfl:=hw.symm;go_wp2_with fail
 go_ret2
 have hw:wrap32 9=9:=by first|decide|rfl|simp [wrap32]
 exact ⟨by show Ending.returned (.tuple #[.int .i32 (wrap32 9),.bool true])=_;rw [hw],rfl⟩
theorem conv_zero (w:World) (p:Option Addr) (c:Nat):(convert 48 9 (.slice p 0 c)).run Tryz.prog w= .ok (.string ByteArray.empty) w:=by
 rw [run_convert_bytes_string w 48 9 5 _ 0 c Tryz.underlying48 Tryz.underlying5 Tryz.underlying9]
 cases p <;> simp [Conv.bytesToString,loadCells]
 all_goals rfl
theorem conv_own {wr:World} {base n:Nat} {l:List UInt8} {ao:Option Addr} {cap:Nat} (h1:l.length=n) (h3:wr.ownsRow base 5 1 (.slice ao n cap) n (Lib.byteCells l)):(convert 48 9 (.slice ao n cap)).run Tryz.prog wr= .ok (.string ⟨l.toArray⟩) wr:=by
 by_cases hn:0<n
 · obtain ⟨g,cap',hv⟩:=own_some h3 hn
   cases hv
   exact bytes_conv h1 h3
 · have e:n=0:=by omega
   subst e;have e2:l=[]:=List.eq_nil_of_length_eq_zero h1;subst e2;exact conv_zero wr ao cap
theorem txt_snoc (zs:List Nat) (z:Nat):txt (zs++[z])=txt zs++enc z:=by simp [txt]
theorem s_47 (s:ByteArray) (k:Nat) (post:List UInt8) (w:World) (hd:s.data.toList.drop k=92::47::post) (hs:s.size≤4611686018427387904):
 Calls Tryz.prog 216 #[.string s,.int .i64 (k:Int)] w fun e w'=>e= .returned (.tuple #[.int .i32 47,.bool true])∧w'=w:=by
 have hlt:k+2≤s.size:=by
  have:=congrArg List.length hd;rw [List.length_drop,Array.length_toList] at this;have e2:s.data.size=s.size:=rfl;simp only [List.length_cons] at this;omega
 have hk0:k<s.size:=by omega
 have hk1:k+1<s.size:=by omega
 have g0:s[k]=92:=q1o hd hk0;have g1:s[k+1]=47:=q1o (q1i hd) hk1;have hi0:(k:Int)<(s.size:Int):=by omega
 have hi1:(k:Int)+1<(s.size:Int):=by omega
 have hne:((k:Int)+1==(s.size:Int))=false:=by rw [bqZ];omega
 have HI:=hQz (fun u=>Tryz.strings_IndexByte ⟨#[34,92,47,98,102,110,114,116]⟩ 47 u);rw [show Lib.indexByte (ByteArray.mk #[34,92,47,98,102,110,114,116]).data.toList (47:Int).toNat.toUInt8=2 by decide] at HI;clear hd;go_in;go_wp2_with fail;refine (HI.out _).mono ?_;rintro e w1 ⟨rfl,hw⟩;obtain rfl:=hw.symm;go_wp2_with fail
 go_ret2
 have hw:wrap32 47=47:=by first|decide|rfl|simp [wrap32]
 exact ⟨by show Ending.returned (.tuple #[.int .i32 (wrap32 47),.bool true])=_;rw [hw],rfl⟩
def RuneB (w w':World) (e:Ending) (P:Int→Bool→Prop):Prop:=∃ r b,e= .returned (.tuple #[.int .i32 r,.bool b])∧P r b∧Below w.heap.size w w'
theorem sign_none (c:UInt8) (h:c≠34∧c≠92∧c≠47∧c≠98∧c≠102∧c≠110∧c≠114∧c≠116):Lib.indexByte (ByteArray.mk #[34,92,47,98,102,110,114,116]).data.toList ((c.toNat:Nat):Int).toNat.toUInt8= -1:=by
 have:∀ m:Fin 256,(m.val≠34∧m.val≠92∧m.val≠47∧m.val≠98∧m.val≠102∧m.val≠110∧m.val≠114∧m.val≠116)→Lib.indexByte (ByteArray.mk #[34,92,47,98,102,110,114,116]).data.toList ((m.val:Nat):Int).toNat.toUInt8= -1:=by decide
 have hn:∀ k:UInt8,c≠k→c.toNat≠k.toNat:=fun k hk e=>hk (UInt8.toNat_inj.1 e);exact this ⟨c.toNat,c.toNat_lt⟩ ⟨hn 34 h.1,hn 92 h.2.1,hn 47 h.2.2.1,hn 98 h.2.2.2.1,hn 102 h.2.2.2.2.1,hn 110 h.2.2.2.2.2.1,hn 114 h.2.2.2.2.2.2.1,hn 116 h.2.2.2.2.2.2.2⟩
def ErrIn (w:World):Prop:=∃ ev,w.cell? ⟨3,0,none⟩=some ev∧(ev= .nilIface∨∃ te pe,ev= .iface te pe)
theorem ErrIn.keep {w w':World} (h:ErrIn w) (hb:Below w.heap.size w w'):ErrIn w':=by
 obtain ⟨ev,h1,h2⟩:=h;refine ⟨ev,(hb.cell (p:=⟨3,0,none⟩) ?_).trans h1,h2⟩;show 3<w.heap.size;rcases Nat.lt_or_ge 3 w.heap.size with h|h
 · exact h
 · simp [World.cell?,Array.getElem?_eq_none h] at h1
theorem w_parse16_bad (t:ByteArray) (w:World) (ht:t.size=4) (hh:t.data.toList.all q1j=false) (hE:ErrIn w):
 Calls Tryz.prog 235 #[.string t,.int .i64 16,.int .i64 16] w fun e w'=>∃ T v,e= .returned (.tuple #[.int .u64 0,.iface T v])∧Below w.heap.size w w':=by
 have HC:=hQz (w_iparse16_bad t w ht hh);have HE:=hQz hE;have hts:t.size≤281474976710656:=by omega
 clear ht hh hE;go_in;go_wp2_with fail;refine HC.out.mono ?_;rintro e w1 ⟨rfl,hb1⟩;have HB:=hQz hb1;obtain ⟨ev,hv,hev⟩:=HE.out.keep hb1;have HT:=hQz (Tryz.strconv_toError_syntax ⟨#[80,97,114,115,101,85,105,110,116]⟩ t 16 16 ev w1 hts hv hev);clear hb1 HC hv hev HE;go_wp2_with fail;refine HT.out.mono ?_;rintro e w2 ⟨N,rfl,_,_,hb2⟩;have HB2:=hQz (q1t HB.out hb2);clear hb2 HT;go_wp2_with fail
 go_ret2
 exact ⟨_,_,rfl,HB2.out⟩
end Go.Proofs.YtdjleoglphgdgaaGreatDoor
