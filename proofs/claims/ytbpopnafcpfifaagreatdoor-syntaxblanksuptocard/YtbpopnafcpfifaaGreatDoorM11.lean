import Derived.Test.YtbpopnafcpfifaaGreatDoorM9
import Derived.Laws.IdiomStrings
import Derived.Test.YtbpopnafcpfifaaGreatDoorM8
set_option linter.unusedVariables false
set_option linter.unusedSimpArgs false
namespace Go.Proofs.YtbpopnafcpfifaaGreatDoor
open Go.RowKit
theorem q1d (l:List UInt8):1≤(decL l).2:=by
 simp only [decL]
 repeat' split
 all_goals simp
theorem q2p (l:List UInt8) (h:l≠[]):(decL l).2≤l.length:=by
 have hl:0<l.length:=List.length_pos_iff.2 h;simp only [decL]
 repeat' split
 all_goals simp_all
 all_goals omega
def pcsF:Nat→List UInt8→List (Nat × Nat)
 | 0,_=>[]
 | f+1,l=>if l=[] then [] else decL l::pcsF f (l.drop (decL l).2)
def pcs (l:List UInt8):List (Nat × Nat):=pcsF l.length l
theorem pcsF_eq:∀ (f:Nat) (l:List UInt8),l.length≤f→pcsF f l=pcs l:=by
 intro f
 induction f using Nat.strongRecOn with
 | _ f ih=>
  intro l hl
  cases f with
  | zero=>
   have e:l=[]:=List.eq_nil_of_length_eq_zero (by omega);subst e;rfl
  | succ f=>
   by_cases hn:l=[]
   · subst hn;rfl
   · have hp:=q1d l;have hlen:0<l.length:=List.length_pos_iff.2 hn;obtain ⟨m,hm⟩:∃ m,l.length=m+1:=⟨l.length-1,by omega⟩;unfold pcs;rw [hm];simp only [pcsF,if_neg hn];rw [ih f (by omega) _ (by simp;omega)];rw [ih m (by omega) _ (by simp;omega)]
theorem pcs_cons {l:List UInt8} (h:l≠[]):pcs l=decL l::pcs (l.drop (decL l).2):=by
 have hlen:0<l.length:=List.length_pos_iff.2 h;obtain ⟨m,hm⟩:∃ m,l.length=m+1:=⟨l.length-1,by omega⟩;have hp:=q1d l;unfold pcs;rw [hm];simp only [pcsF,if_neg h];rw [pcsF_eq m _ (by simp;omega)];rfl
def q29 (l:List UInt8):List Nat:=(pcs l).map (·.1)
theorem runes_nil:q29 []=[]:=rfl
theorem q2g {l:List UInt8} (h:l≠[]):q29 l=(decL l).1::q29 (l.drop (decL l).2):=by unfold q29;rw [pcs_cons h];rfl
theorem runes_len_le (l:List UInt8):(q29 l).length≤l.length:=by
 have:∀ n,∀ l:List UInt8,l.length≤n→(q29 l).length≤l.length:=by
  intro n
  induction n with
  | zero=>
   intro l hl;have e:l=[]:=List.eq_nil_of_length_eq_zero (by omega);subst e;exact Nat.le_refl _
  | succ n ih=>
   intro l hl;by_cases h:l=[]
   · subst h;exact Nat.le_refl _
   · have hp:=q1d l;have hlen:0<l.length:=List.length_pos_iff.2 h;rw [q2g h,List.length_cons];have:=ih (l.drop (decL l).2) (by simp;omega);simp at this;omega
 exact this l.length l (Nat.le_refl _)
def RS (w:World) (v:Value) (zs:List Nat):Prop:=∃ g cap,v= .slice (some ⟨g,0,none⟩) zs.length cap∧zs.length≤cap∧g<w.heap.size∧∀ i,i<zs.length→w.cell? ⟨g,i,none⟩=some (.int .i32 ((zs.getD i 0:Nat):Int))
theorem RS.keep {w w':World} {v:Value} {zs:List Nat} (h:RS w v zs) (hb:Below w.heap.size w w'):RS w' v zs:=by
 obtain ⟨g,cap,hv,hc,hg,hr⟩:=h;exact ⟨g,cap,hv,hc,Nat.lt_of_lt_of_le hg hb.size,fun i hi=>(hb.cell (p:=⟨g,i,none⟩) hg).trans (hr i hi)⟩
theorem isR_of {n:Nat} (h:Utf8.valid (n:Int)=true):isR n:=by
 unfold Utf8.valid at h;unfold isR;simp only [Bool.or_eq_true,Bool.and_eq_true,decide_eq_true_eq] at h;omega
theorem u8_of {b:UInt8} {n:Nat} (h:n=b.toNat):UInt8.ofNat n=b:=by subst h;simp
theorem q2J (l:List UInt8) (h:l≠[]):(∃ n post,isR n∧l=enc n++post)∨decL l=(65533,1):=by
 obtain ⟨b0,t,rfl⟩:=List.exists_cons_of_ne_nil h;have l0:=b0.toNat_lt;by_cases c0:b0.toNat<0x80
 · left
   refine ⟨b0.toNat,t,by unfold isR;omega,?_⟩;unfold enc;rw [if_pos c0,u8_of rfl];rfl
 by_cases c1:b0.toNat / 32=6
 · have c2:¬ b0.toNat / 16=14:=by omega
   have c3:¬ b0.toNat / 8=30:=by omega
   cases t with
   | nil=>right;simp [decL,c0,c1,c2,c3]
   | cons b1 t=>
    have l1:=b1.toNat_lt;by_cases d1:b1.toNat / 64=2
    · by_cases hc:(b0.toNat%32)*64+b1.toNat%64≥0x80
      · left
        refine ⟨(b0.toNat%32)*64+b1.toNat%64,t,by unfold isR;omega,?_⟩;unfold enc;rw [if_neg (by omega),if_pos (by omega),u8_of (b:=b0) (by omega),u8_of (b:=b1) (by omega)];rfl
      · right;simp [decL,c0,c1,c2,c3,d1,hc]
    · right;simp [decL,c0,c1,c2,c3,d1]
 by_cases c2:b0.toNat / 16=14
 · have c3:¬ b0.toNat / 8=30:=by omega
   cases t with
   | nil=>right;simp [decL,c0,c1,c2,c3]
   | cons b1 t=>
    have l1:=b1.toNat_lt
    cases t with
    | nil=>right;simp [decL,c0,c1,c2,c3]
    | cons b2 t=>
     have l2:=b2.toNat_lt;by_cases d1:b1.toNat / 64=2
     · by_cases d2:b2.toNat / 64=2
       · obtain ⟨c,hcc⟩:∃ c,c=(b0.toNat%16)*4096+(b1.toNat%64)*64+b2.toNat%64:=⟨_,rfl⟩;by_cases hc:c≥0x800
         · cases hv:Utf8.valid (c:Int) with
           | true=>
            left
            refine ⟨c,t,isR_of hv,?_⟩;unfold enc;rw [if_neg (by omega),if_neg (by omega),if_pos (by omega),u8_of (b:=b0) (by omega),u8_of (b:=b1) (by omega),u8_of (b:=b2) (by omega)];rfl
           | false=>
            right
            simp only [decL,List.getD_cons_zero,List.getD_cons_succ,← hcc,hv];simp [c0,c1,c2,c3,d1,d2]
         · right
           simp only [decL,List.getD_cons_zero,List.getD_cons_succ,← hcc];simp [c0,c1,c2,c3,d1,d2,hc]
       · right;simp [decL,c0,c1,c2,c3,d1,d2]
     · right;simp [decL,c0,c1,c2,c3,d1]
 by_cases c3:b0.toNat / 8=30
 · cases t with
   | nil=>right;simp [decL,c0,c1,c2,c3]
   | cons b1 t=>
    have l1:=b1.toNat_lt
    cases t with
    | nil=>right;simp [decL,c0,c1,c2,c3]
    | cons b2 t=>
     have l2:=b2.toNat_lt
     cases t with
     | nil=>right;simp [decL,c0,c1,c2,c3]
     | cons b3 t=>
      have l3:=b3.toNat_lt;by_cases d1:b1.toNat / 64=2
      · by_cases d2:b2.toNat / 64=2
        · by_cases d3:b3.toNat / 64=2
          · obtain ⟨c,hcc⟩:∃ c,c=(b0.toNat%8)*262144+(b1.toNat%64)*4096+(b2.toNat%64)*64+b3.toNat%64:=⟨_,rfl⟩;by_cases hc:c≥0x10000
            · cases hv:Utf8.valid (c:Int) with
              | true=>
               left
               refine ⟨c,t,isR_of hv,?_⟩;unfold enc;rw [if_neg (by omega),if_neg (by omega),if_neg (by omega),u8_of (b:=b0) (by omega),u8_of (b:=b1) (by omega),u8_of (b:=b2) (by omega),u8_of (b:=b3) (by omega)];rfl
              | false=>
               right
               simp only [decL,List.getD_cons_zero,List.getD_cons_succ,← hcc,hv];simp [c0,c1,c2,c3,d1,d2,d3]
            · right
              simp only [decL,List.getD_cons_zero,List.getD_cons_succ,← hcc];simp [c0,c1,c2,c3,d1,d2,d3,hc]
          · right;simp [decL,c0,c1,c2,c3,d1,d2,d3]
        · right;simp [decL,c0,c1,c2,c3,d1,d2]
      · right;simp [decL,c0,c1,c2,c3,d1]
 · right;simp [decL,c0,c1,c2,c3]
theorem q2c:enc 65533=[239,191,189]:=by decide
theorem decL_isR (l:List UInt8) (h:l≠[]):isR (decL l).1:=by
 rcases q2J l h with ⟨n,post,hn,rfl⟩|e
 · rw [q1m n hn post];exact hn
 · rw [e];unfold isR;omega
def q0p (l:List UInt8):Bool:=(decL l).1==65533&& !(Lib.hasPrefix l [239,191,189])
theorem pre_err (post:List UInt8):Lib.hasPrefix (enc 65533++post) [239,191,189]=true:=by rw [q2c];rfl
theorem pre_err_of {l:List UInt8} (h:Lib.hasPrefix l [239,191,189]=true):∃ post,l=enc 65533++post:=by
 rw [q2c];have h':([239,191,189]:List UInt8).isPrefixOf l=true:=h;rw [List.isPrefixOf_iff_prefix] at h';obtain ⟨t,rfl⟩:=h';exact ⟨t,rfl⟩
theorem stray_enc (n:Nat) (hn:isR n) (post:List UInt8):q0p (enc n++post)=false:=by
 unfold q0p;rw [q1m n hn post];by_cases h:n=65533
 · subst h;rw [pre_err];rfl
 · rw [show (n==65533)=false from bqZ.2 h];rfl
theorem q1Z (l:List UInt8) (h:l≠[]):(∃ n post,isR n∧l=enc n++post∧q0p l=false)∨(decL l=(65533,1)∧q0p l=true):=by
 rcases q2J l h with ⟨n,post,hn,rfl⟩|e
 · exact Or.inl ⟨n,post,hn,rfl,stray_enc n hn post⟩
 · right
   refine ⟨e,?_⟩;unfold q0p;rw [e]
   cases hp:Lib.hasPrefix l [239,191,189] with
   | false=>rfl
   | true=>
    obtain ⟨post,rfl⟩:=pre_err_of hp;rw [q1m 65533 (by unfold isR;omega) post,q2c] at e
    cases e
theorem decL_take (l:List UInt8) (m:Nat) (h:l≠[]) (hm:(decL l).2≤m):decL (l.take m)=decL l:=by
 rcases q2J l h with ⟨n,post,hn,rfl⟩|e
 · rw [q1m n hn post] at hm ⊢;have hm':(enc n).length≤m:=hm;rw [List.take_append,List.take_of_length_le hm',q1m n hn]
 · rw [e] at hm;have hm':1≤m:=hm
   have hne:l.take m≠[]:=by
    intro e2;have:=congrArg List.length e2;have hl:0<l.length:=List.length_pos_iff.2 h;rw [List.length_take,List.length_nil] at this;omega
   rcases q2J (l.take m) hne with ⟨n,post,hn,e2⟩|e2
   · have e3:l=enc n++(post++l.drop m):=by rw [← List.append_assoc,← e2,List.take_append_drop]
     rw [e3,q1m n hn] at e;have e4:n=65533:=congrArg Prod.fst e;have e5:(enc n).length=1:=congrArg Prod.snd e;subst e4;rw [q2c] at e5
     cases e5
   · rw [e2,e]
def off (l:List UInt8):Nat→Nat
 | 0=>0
 | k+1=>if l=[] then 0 else (decL l).2+off (l.drop (decL l).2) k
theorem off_nil (k:Nat):off [] k=0:=by cases k <;> simp [off]
theorem off_succ {l:List UInt8} (h:l≠[]) (k:Nat):off l (k+1)=(decL l).2+off (l.drop (decL l).2) k:=by
 simp only [off,if_neg h]
theorem off_add (i:Nat):∀ (l:List UInt8) (j:Nat),off l (i+j)=off l i+off (l.drop (off l i)) j:=by
 induction i with
 | zero=>intro l j;rw [Nat.zero_add];show _=0+off (l.drop 0) j;rw [List.drop_zero,Nat.zero_add]
 | succ i ih=>
  intro l j;by_cases h:l=[]
  · subst h;simp [off_nil]
  · rw [show i+1+j=(i+j)+1 by omega,off_succ h,ih,off_succ h,List.drop_drop,Nat.add_assoc]
theorem off_step (l:List UInt8) (k:Nat) (h:l.drop (off l k)≠[]):off l (k+1)=off l k+(decL (l.drop (off l k))).2:=by
 rw [off_add,off_succ h];simp [off]
theorem off_end (k:Nat):∀ l:List UInt8,(q29 l).length≤k→off l k=l.length:=by
 induction k with
 | zero=>
  intro l hk;by_cases h:l=[]
  · subst h;rfl
  · rw [q2g h,List.length_cons] at hk;omega
 | succ k ih=>
  intro l hk;by_cases h:l=[]
  · subst h;rfl
  · rw [q2g h,List.length_cons] at hk;have h2:=q2p l h;rw [off_succ h,ih _ (by omega),List.length_drop];omega
theorem off_lt (k:Nat):∀ l:List UInt8,k<(q29 l).length→off l k<l.length:=by
 induction k with
 | zero=>
  intro l hk;by_cases h:l=[]
  · subst h;rw [runes_nil] at hk;cases hk
  · exact List.length_pos_iff.2 h
 | succ k ih=>
  intro l hk;by_cases h:l=[]
  · subst h;rw [runes_nil] at hk;cases hk
  · rw [q2g h,List.length_cons] at hk;have:=ih (l.drop (decL l).2) (by omega);rw [List.length_drop] at this;rw [off_succ h];omega
theorem own_below {w w1:World} {B e size n:Nat} {v:Value} {xs:List Value} (h:w.ownsRow B e size v n xs) (hb:Below w.heap.size w w1):w1.ownsRow B e size v n xs:=by
 refine ⟨h.1,?_⟩;rcases h.2 with h0|⟨g,cap,cur,hv,hb',hg,rest⟩
 · exact .inl h0
 · refine .inr ⟨g,cap,cur,hv,hb',?_,rest⟩;rw [hb.block g (Array.getElem?_eq_some_iff.1 hg).1];exact hg
theorem encodeRune_enc (n:Nat) (h:isR n):Lib.encodeRune (n:Int)=enc n:=by
 unfold isR at h;unfold Lib.encodeRune enc;by_cases h1:n<0x80
 · rw [Lib.encodeRuneZ_one (by omega) (by omega),if_pos h1];simp
 · rw [if_neg h1];by_cases h2:n<0x800
   · rw [Lib.encodeRuneZ_two (by omega) (by omega),if_pos h2];simp only [List.map_cons,List.map_nil];rw [show (192+(n:Int) / 64).toNat=0xC0+n / 64 by omega,show (128+(n:Int)%64).toNat=0x80+n%64 by omega]
   · rw [if_neg h2];unfold Lib.encodeRuneZ;rw [if_neg (by omega),if_neg (by omega)];by_cases h3:n<0x10000
     · rw [if_pos (by omega),if_pos h3];simp only [List.map_cons,List.map_nil];rw [show (224+(n:Int) / 4096).toNat=0xE0+n / 4096 by omega,show (128+(n:Int) / 64%64).toNat=0x80+n / 64%64 by omega,show (128+(n:Int)%64).toNat=0x80+n%64 by omega]
     · rw [if_neg (by omega),if_pos (by omega),if_neg h3];simp only [List.map_cons,List.map_nil];rw [show (240+(n:Int) / 262144).toNat=0xF0+n / 262144 by omega,show (128+(n:Int) / 4096%64).toNat=0x80+n / 4096%64 by omega,show (128+(n:Int) / 64%64).toNat=0x80+n / 64%64 by omega,show (128+(n:Int)%64).toNat=0x80+n%64 by omega]
theorem q2H {w:World} {k:Nat} {s:ByteArray} {p:Nat} (h:w.heap[k]? =some (.stringIter s p)):w.iterPos k=p:=by simp [World.iterPos,h]
theorem drop_ne' {s:ByteArray} {p:Nat} (h:p<s.size):s.data.toList.drop p≠[]:=by
 intro e;have:=congrArg List.length e;rw [List.length_drop,Array.length_toList,List.length_nil] at this;have e2:s.data.size=s.size:=rfl;omega
theorem step_le' {s:ByteArray} {p:Nat} (h:p<s.size):p+(decL (s.data.toList.drop p)).2≤s.size:=by
 have:=q2p _ (drop_ne' h);rw [List.length_drop,Array.length_toList] at this;have e2:s.data.size=s.size:=rfl;omega
def txt (zs:List Nat):List UInt8:=zs.flatMap enc
theorem rn_nat {n:Nat} (h:isR n):rn (n:Int)=n:=by
 unfold rn;rw [← valid_rn,valid_of h];simp
set_option maxRecDepth 100000 in
set_option maxHeartbeats 800000 in
theorem w_stray (s:ByteArray) (p r:Nat) (w:World) (hp:p≤s.size):
 Calls Tryz.prog 95 #[.string s,.int .i64 (p:Int),.int .i32 (r:Int)] w fun e w'=>e= .returned (.bool (r==65533&& !(Lib.hasPrefix (s.data.toList.drop p) [239,191,189])))∧w'=w:=by
 have hpi:(p:Int)≤(s.size:Int):=by omega
 have HP:=hQz (fun u=>Tryz.strings_HasPrefix (s.extract p s.size) ⟨#[239,191,189]⟩ u);rw [q0U] at HP;by_cases hr:r=65533
 · subst hr;generalize s.data.toList.drop p=l at *;go_enter Tryz.func95,Tryz.ntmps95;go_wp2_with fail;refine (HP.out _).mono ?_;rintro e w1 ⟨rfl,hw⟩;obtain rfl:=hw.symm;go_wp2_with fail;go_ret;exact ⟨by first|rfl|simp,rfl⟩
 · have hr2:(((r:Nat):Int)==65533)=false:=by rw [bqZ];omega
   rw [show (r==65533)=false from bqZ.2 hr];exact w_stray_no s (p:Int) (r:Int) w hr2
theorem drop_ne {s:ByteArray} {p:Nat} (h:p<s.size):s.data.toList.drop p≠[]:=by
 intro e;have:=congrArg List.length e;rw [List.length_drop,Array.length_toList,List.length_nil] at this;have e2:s.data.size=s.size:=rfl;omega
theorem step_le {s:ByteArray} {p:Nat} (h:p<s.size):p+(decL (s.data.toList.drop p)).2≤s.size:=by
 have:=q2p _ (drop_ne h);rw [List.length_drop,Array.length_toList] at this;have e2:s.data.size=s.size:=rfl;omega
end Go.Proofs.YtbpopnafcpfifaaGreatDoor
