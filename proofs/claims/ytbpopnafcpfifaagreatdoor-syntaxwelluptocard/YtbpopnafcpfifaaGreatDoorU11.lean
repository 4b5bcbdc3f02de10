import Derived.Test.YtbpopnafcpfifaaGreatDoorU9
import Derived.Laws.IdiomStrings
import Derived.Test.YtbpopnafcpfifaaGreatDoorU8
set_option linter.unusedVariables false
set_option linter.unusedSimpArgs false
namespace Go.Proofs.YtbpopnafcpfifaaGreatDoor
open Go.RowKit
set_option maxRecDepth 100000
set_option maxHeartbeats 12800000
theorem q1V (l:List UInt8):1≤(decL l).2:=by
 simp only [decL]
 repeat' split
 all_goals simp
theorem decL_le (l:List UInt8) (h:l≠[]):(decL l).2≤l.length:=by
 have hl:0<l.length:=List.length_pos_iff.2 h;simp only [decL]
 repeat' split
 all_goals simp_all
 all_goals omega
def pcsF:Nat→List UInt8→List (Nat × Nat)
 | 0,_=>[]
 | f+1,l=>if l=[] then [] else decL l::pcsF f (l.drop (decL l).2)
def pcs (l:List UInt8):List (Nat × Nat):=pcsF l.length l
theorem pcsF_eq:∀ (f:Nat) (l:List UInt8),l.length≤f→pcsF f l=pcs l:=by
 intro f
 induction f using Nat.strongRecOn with
 | _ f ih=>
  intro l hl
  cases f with
  | zero=>
   have e:l=[]:=List.eq_nil_of_length_eq_zero (by omega);subst e;rfl
  | succ f=>
   by_cases hn:l=[]
   · subst hn;rfl
   · have hp:=q1V l;have hlen:0<l.length:=List.length_pos_iff.2 hn;obtain ⟨m,hm⟩:∃ m,l.length=m+1:=⟨l.length-1,by omega⟩;unfold pcs;rw [hm];simp only [pcsF,if_neg hn];rw [ih f (by omega) _ (by simp;omega)];rw [ih m (by omega) _ (by simp;omega)]
theorem pcs_cons {l:List UInt8} (h:l≠[]):pcs l=decL l::pcs (l.drop (decL l).2):=by
 have hlen:0<l.length:=List.length_pos_iff.2 h;obtain ⟨m,hm⟩:∃ m,l.length=m+1:=⟨l.length-1,by omega⟩;have hp:=q1V l;unfold pcs;rw [hm];simp only [pcsF,if_neg h];rw [pcsF_eq m _ (by simp;omega)];rfl
def runes (l:List UInt8):List Nat:=(pcs l).map (·.1)
theorem runes_cons {l:List UInt8} (h:l≠[]):runes l=(decL l).1::runes (l.drop (decL l).2):=by unfold runes;rw [pcs_cons h];rfl
def RS (w:World) (v:Value) (zs:List Nat):Prop:=∃ g cap,v= .slice (some ⟨g,0,none⟩) zs.length cap∧zs.length≤cap∧g<w.heap.size∧∀ i,i<zs.length→w.cell? ⟨g,i,none⟩=some (.int .i32 ((zs.getD i 0:Nat):Int))
theorem RS.keep {w w':World} {v:Value} {zs:List Nat} (h:RS w v zs) (hb:Below w.heap.size w w'):RS w' v zs:=by
 obtain ⟨g,cap,hv,hc,hg,hr⟩:=h;exact ⟨g,cap,hv,hc,Nat.lt_of_lt_of_le hg hb.size,fun i hi=>(hb.cell (p:=⟨g,i,none⟩) hg).trans (hr i hi)⟩
theorem runes_enc (n:Nat) (h:isR n) (post:List UInt8):runes (enc n++post)=n::runes post:=by
 have hl:=(enc_len n).1;have hne:enc n++post≠[]:=by intro e;have:=congrArg List.length e;rw [List.length_append,List.length_nil] at this;omega
 rw [runes_cons hne,q1N n h post];simp
theorem isR_of {n:Nat} (h:Utf8.valid (n:Int)=true):isR n:=by
 unfold Utf8.valid at h;unfold isR;simp only [Bool.or_eq_true,Bool.and_eq_true,decide_eq_true_eq] at h;omega
theorem u8_of {b:UInt8} {n:Nat} (h:n=b.toNat):UInt8.ofNat n=b:=by subst h;simp
theorem decL_cases (l:List UInt8) (h:l≠[]):(∃ n post,isR n∧l=enc n++post)∨decL l=(65533,1):=by
 obtain ⟨b0,t,rfl⟩:=List.exists_cons_of_ne_nil h;have l0:=b0.toNat_lt;by_cases c0:b0.toNat<0x80
 · left
   refine ⟨b0.toNat,t,by unfold isR;omega,?_⟩;unfold enc;rw [if_pos c0,u8_of rfl];rfl
 by_cases c1:b0.toNat / 32=6
 · have c2:¬ b0.toNat / 16=14:=by omega
   have c3:¬ b0.toNat / 8=30:=by omega
   cases t with
   | nil=>right;simp [decL,c0,c1,c2,c3]
   | cons b1 t=>
    have l1:=b1.toNat_lt;by_cases d1:b1.toNat / 64=2
    · by_cases hc:(b0.toNat%32)*64+b1.toNat%64≥0x80
      · left
        refine ⟨(b0.toNat%32)*64+b1.toNat%64,t,by unfold isR;omega,?_⟩;unfold enc;rw [if_neg (by omega),if_pos (by omega),u8_of (b:=b0) (by omega),u8_of (b:=b1) (by omega)];rfl
      · right;simp [decL,c0,c1,c2,c3,d1,hc]
    · right;simp [decL,c0,c1,c2,c3,d1]
 by_cases c2:b0.toNat / 16=14
 · have c3:¬ b0.toNat / 8=30:=by omega
   cases t with
   | nil=>right;simp [decL,c0,c1,c2,c3]
   | cons b1 t=>
    have l1:=b1.toNat_lt
    cases t with
    | nil=>right;simp [decL,c0,c1,c2,c3]
    | cons b2 t=>
     have l2:=b2.toNat_lt;by_cases d1:b1.toNat / 64=2
     · by_cases d2:b2.toNat / 64=2
       · obtain ⟨c,hcc⟩:∃ c,c=(b0.toNat%16)*4096+(b1.toNat%64)*64+b2.toNat%64:=⟨_,rfl⟩;by_cases hc:c≥0x800
         · cases hv:Utf8.valid (c:Int) with
           | true=>
            left
            refine ⟨c,t,isR_of hv,?_⟩;unfold enc;rw [if_neg (by omega),if_neg (by omega),if_pos (by omega),u8_of (b:=b0) (by omega),u8_of (b:=b1) (by omega),u8_of (b:=b2) (by omega)];rfl
           | false=>
            right
            simp only [decL,List.getD_cons_zero,List.getD_cons_succ,← hcc,hv];simp [c0,c1,c2,c3,d1,d2]
         · right
           simp only [decL,List.getD_cons_zero,List.getD_cons_succ,← hcc];simp [c0,c1,c2,c3,d1,d2,hc]
       · right;simp [decL,c0,c1,c2,c3,d1,d2]
     · right;simp [decL,c0,c1,c2,c3,d1]
 by_cases c3:b0.toNat / 8=30
 · cases t with
   | nil=>right;simp [decL,c0,c1,c2,c3]
   | cons b1 t=>
    have l1:=b1.toNat_lt
    cases t with
    | nil=>right;simp [decL,c0,c1,c2,c3]
    | cons b2 t=>
     have l2:=b2.toNat_lt
     cases t with
     | nil=>right;simp [decL,c0,c1,c2,c3]
     | cons b3 t=>
      have l3:=b3.toNat_lt;by_cases d1:b1.toNat / 64=2
      · by_cases d2:b2.toNat / 64=2
        · by_cases d3:b3.toNat / 64=2
          · obtain ⟨c,hcc⟩:∃ c,c=(b0.toNat%8)*262144+(b1.toNat%64)*4096+(b2.toNat%64)*64+b3.toNat%64:=⟨_,rfl⟩;by_cases hc:c≥0x10000
            · cases hv:Utf8.valid (c:Int) with
              | true=>
               left
               refine ⟨c,t,isR_of hv,?_⟩;unfold enc;rw [if_neg (by omega),if_neg (by omega),if_neg (by omega),u8_of (b:=b0) (by omega),u8_of (b:=b1) (by omega),u8_of (b:=b2) (by omega),u8_of (b:=b3) (by omega)];rfl
              | false=>
               right
               simp only [decL,List.getD_cons_zero,List.getD_cons_succ,← hcc,hv];simp [c0,c1,c2,c3,d1,d2,d3]
            · right
              simp only [decL,List.getD_cons_zero,List.getD_cons_succ,← hcc];simp [c0,c1,c2,c3,d1,d2,d3,hc]
          · right;simp [decL,c0,c1,c2,c3,d1,d2,d3]
        · right;simp [decL,c0,c1,c2,c3,d1,d2]
      · right;simp [decL,c0,c1,c2,c3,d1]
 · right;simp [decL,c0,c1,c2,c3]
theorem q2s:enc 65533=[239,191,189]:=by decide
theorem decL_isR (l:List UInt8) (h:l≠[]):isR (decL l).1:=by
 rcases decL_cases l h with ⟨n,post,hn,rfl⟩|e
 · rw [q1N n hn post];exact hn
 · rw [e];unfold isR;omega
def q0S (l:List UInt8):Bool:=(decL l).1==65533&& !(Lib.hasPrefix l [239,191,189])
theorem pre_err (post:List UInt8):Lib.hasPrefix (enc 65533++post) [239,191,189]=true:=by rw [q2s];rfl
theorem pre_err_of {l:List UInt8} (h:Lib.hasPrefix l [239,191,189]=true):∃ post,l=enc 65533++post:=by
 rw [q2s];have h':([239,191,189]:List UInt8).isPrefixOf l=true:=h;rw [List.isPrefixOf_iff_prefix] at h';obtain ⟨t,rfl⟩:=h';exact ⟨t,rfl⟩
theorem stray_enc (n:Nat) (hn:isR n) (post:List UInt8):q0S (enc n++post)=false:=by
 unfold q0S;rw [q1N n hn post];by_cases h:n=65533
 · subst h;rw [pre_err];rfl
 · rw [show (n==65533)=false from bqZ.2 h];rfl
theorem stray_or (l:List UInt8) (h:l≠[]):(∃ n post,isR n∧l=enc n++post∧q0S l=false)∨(decL l=(65533,1)∧q0S l=true):=by
 rcases decL_cases l h with ⟨n,post,hn,rfl⟩|e
 · exact Or.inl ⟨n,post,hn,rfl,stray_enc n hn post⟩
 · right
   refine ⟨e,?_⟩;unfold q0S;rw [e]
   cases hp:Lib.hasPrefix l [239,191,189] with
   | false=>rfl
   | true=>
    obtain ⟨post,rfl⟩:=pre_err_of hp;rw [q1N 65533 (by unfold isR;omega) post,q2s] at e
    cases e
def off (l:List UInt8):Nat→Nat
 | 0=>0
 | k+1=>if l=[] then 0 else (decL l).2+off (l.drop (decL l).2) k
theorem own_below {w w1:World} {B e size n:Nat} {v:Value} {xs:List Value} (h:w.ownsRow B e size v n xs) (hb:Below w.heap.size w w1):w1.ownsRow B e size v n xs:=by
 refine ⟨h.1,?_⟩;rcases h.2 with h0|⟨g,cap,cur,hv,hb',hg,rest⟩
 · exact .inl h0
 · refine .inr ⟨g,cap,cur,hv,hb',?_,rest⟩;rw [hb.block g (Array.getElem?_eq_some_iff.1 hg).1];exact hg
theorem encodeRune_enc (n:Nat) (h:isR n):Lib.encodeRune (n:Int)=enc n:=by
 unfold isR at h;unfold Lib.encodeRune enc;by_cases h1:n<0x80
 · rw [Lib.encodeRuneZ_one (by omega) (by omega),if_pos h1];simp
 · rw [if_neg h1];by_cases h2:n<0x800
   · rw [Lib.encodeRuneZ_two (by omega) (by omega),if_pos h2];simp only [List.map_cons,List.map_nil];rw [show (192+(n:Int) / 64).toNat=0xC0+n / 64 by omega,show (128+(n:Int)%64).toNat=0x80+n%64 by omega]
   · rw [if_neg h2];unfold Lib.encodeRuneZ;rw [if_neg (by omega),if_neg (by omega)];by_cases h3:n<0x10000
     · rw [if_pos (by omega),if_pos h3];simp only [List.map_cons,List.map_nil];rw [show (224+(n:Int) / 4096).toNat=0xE0+n / 4096 by omega,show (128+(n:Int) / 64%64).toNat=0x80+n / 64%64 by omega,show (128+(n:Int)%64).toNat=0x80+n%64 by omega]
     · rw [if_neg (by omega),if_pos (by omega),if_neg h3];simp only [List.map_cons,List.map_nil];rw [show (240+(n:Int) / 262144).toNat=0xF0+n / 262144 by omega,show (128+(n:Int) / 4096%64).toNat=0x80+n / 4096%64 by omega,show (128+(n:Int) / 64%64).toNat=0x80+n / 64%64 by omega,show (128+(n:Int)%64).toNat=0x80+n%64 by omega]
theorem q2k {w:World} {k:Nat} {s:ByteArray} {p:Nat} (h:w.heap[k]? =some (.stringIter s p)):w.iterPos k=p:=by simp [World.iterPos,h]
theorem drop_ne' {s:ByteArray} {p:Nat} (h:p<s.size):s.data.toList.drop p≠[]:=by
 intro e;have:=congrArg List.length e;rw [List.length_drop,Array.length_toList,List.length_nil] at this;have e2:s.data.size=s.size:=rfl;omega
theorem step_le' {s:ByteArray} {p:Nat} (h:p<s.size):p+(decL (s.data.toList.drop p)).2≤s.size:=by
 have:=decL_le _ (drop_ne' h);rw [List.length_drop,Array.length_toList] at this;have e2:s.data.size=s.size:=rfl;omega
def txt (zs:List Nat):List UInt8:=zs.flatMap enc
def okB (l:List UInt8):Bool:=decide (txt (runes l)=l)
theorem ok_nil:okB []=true:=by decide
theorem ok_enc (n:Nat) (hn:isR n) (post:List UInt8):okB (enc n++post)=okB post:=by
 unfold okB;rw [runes_enc n hn post];have e:txt (n::runes post)=enc n++txt (runes post):=rfl;rw [e];by_cases h:txt (runes post)=post
 · rw [decide_eq_true h,decide_eq_true (by rw [h])]
 · rw [decide_eq_false h,decide_eq_false (fun h2=>h (List.append_cancel_left h2))]
theorem ok_stray (l:List UInt8) (h:l≠[]) (e:decL l=(65533,1)):okB l=false:=by
 unfold okB;refine decide_eq_false fun h2=> ?_;rw [runes_cons h,e] at h2;have e2:l=enc 65533++txt (runes (l.drop 1)):=h2.symm;have hd:=q1N 65533 (by unfold isR;omega) (txt (runes (l.drop 1)));rw [← e2,e,q2s] at hd
 cases hd
theorem runes_txt (zs:List Nat) (h:∀ z∈zs,isR z):runes (txt zs)=zs:=by
 induction zs with
 | nil=>rfl
 | cons z r ih=>
  have e:txt (z::r)=enc z++txt r:=rfl;rw [e,runes_enc z (h z mcS),ih fun y hy=>h y (List.mem_cons_of_mem _ hy)]
theorem ok_txt (zs:List Nat) (h:∀ z∈zs,isR z):okB (txt zs)=true:=by
 unfold okB;rw [runes_txt zs h];simp
theorem rn_nat {n:Nat} (h:isR n):rn (n:Int)=n:=by
 unfold rn;rw [← valid_rn,valid_of h];simp
theorem w_stray (s:ByteArray) (p r:Nat) (w:World) (hp:p≤s.size):
 Calls Tryz.prog 95 #[.string s,.int .i64 (p:Int),.int .i32 (r:Int)] w fun e w'=>e= .returned (.bool (r==65533&& !(Lib.hasPrefix (s.data.toList.drop p) [239,191,189])))∧w'=w:=by
 have hpi:(p:Int)≤(s.size:Int):=by omega
 have HP:=hQz (fun u=>Tryz.strings_HasPrefix (s.extract p s.size) ⟨#[239,191,189]⟩ u);rw [q0N] at HP;by_cases hr:r=65533
 · subst hr;generalize s.data.toList.drop p=l at *;go_enter Tryz.func95,Tryz.ntmps95;go_wp2_with fail;refine (HP.out _).mono ?_;rintro e w1 ⟨rfl,hw⟩;obtain rfl:=hw.symm;go_wp2_with fail;go_ret;exact ⟨by first|rfl|simp,rfl⟩
 · have hr2:(((r:Nat):Int)==65533)=false:=by rw [bqZ];omega
   rw [show (r==65533)=false from bqZ.2 hr];exact w_stray_no s (p:Int) (r:Int) w hr2
theorem nxt2 (w:World) (s:ByteArray) (p:Nat) (ty:TypeId) (h:p<s.size):
 (Instr.next (.pointer (some ⟨w.heap.size,0,none⟩)) true ty).run Tryz.prog (w.iter s p)= .ok (.tuple #[.bool true,.int .i64 (p:Int),.int .i32 ((decL (s.data.toList.drop p)).1:Int)]) (w.iter s (p+(decL (s.data.toList.drop p)).2)):=by
 have:=run_next_any (P:=Tryz.prog) w s p ty h;rw [decode_eq s p (by omega)] at this;exact this
theorem drop_ne {s:ByteArray} {p:Nat} (h:p<s.size):s.data.toList.drop p≠[]:=by
 intro e;have:=congrArg List.length e;rw [List.length_drop,Array.length_toList,List.length_nil] at this;have e2:s.data.size=s.size:=rfl;omega
theorem drop_all {s:ByteArray} {p:Nat} (h:¬ p<s.size):s.data.toList.drop p=[]:=List.drop_eq_nil_of_le (by simp;omega)
theorem step_le {s:ByteArray} {p:Nat} (h:p<s.size):p+(decL (s.data.toList.drop p)).2≤s.size:=by
 have:=decL_le _ (drop_ne h);rw [List.length_drop,Array.length_toList] at this;have e2:s.data.size=s.size:=rfl;omega
theorem q1S (s:ByteArray) (w:World) (hs:s.size≤9223372036854775806):
 Calls Tryz.prog 81 #[.string s] w fun e w'=>e= .returned (.bool (okB s.data.toList))∧Below w.heap.size w w':=by
 go_enter Tryz.func81,Tryz.ntmps81;go_wp2_with fail
 go_loopw [3,4] (fun _ _ wr=>∃ (pos:Nat),wr=w.iter s pos∧pos≤s.size∧Hid (okB s.data.toList=okB (s.data.toList.drop pos))) (fun _ _ wr=>s.size-wr.iterPos w.heap.size)
 case atStart=>exact ⟨0,rfl,Nat.zero_le _,by show _=_;rw [List.drop_zero]⟩
 case round=>
  obtain ⟨pos,rfl,hpos,HR⟩:=hrel;by_cases hp:pos<s.size
  · have hnx:∀ ty,_:=fun ty=>nxt2 w s pos ty hp;have H1:=hQz (q1V (s.data.toList.drop pos));have H2:=hQz (step_le hp);have HS:=hQz (fun u=>w_stray s pos (decL (s.data.toList.drop pos)).1 u hpos);rcases stray_or _ (drop_ne hp) with ⟨n,post,hn,he,hst⟩|⟨he,hst⟩
    · have H3:Hid (okB (s.data.toList.drop pos)=okB (s.data.toList.drop (pos+(decL (s.data.toList.drop pos)).2))):=by
       show _=_
       have e2:s.data.toList.drop (pos+(decL (s.data.toList.drop pos)).2)=post:=by
        rw [← List.drop_drop,he,q1N n hn post,List.drop_append_of_le_length (Nat.le_refl _),List.drop_length];rfl
       rw [e2,he,ok_enc n hn]
      have HT:=hQz hst;clear he hst;go_wp2_with fail;refine (HS.out _).mono ?_;rintro e w1 ⟨rfl,hw⟩;obtain rfl:=hw.symm;have ht:=HT.out;unfold q0S at ht;rw [ht];clear ht;go_wp2_with fail;go_roundw
      case rel=>exact ⟨_,rfl,H2.out,by show _=_;rw [HR.out,H3.out]⟩
      case measure=>
       have:=H1.out;have:=H2.out;simp;omega
    · have HF:Hid (okB s.data.toList=false):=by show _=_;rw [HR.out,ok_stray _ (drop_ne hp) he]
      have HT:=hQz hst;clear he hst;go_wp2_with fail;refine (HS.out _).mono ?_;rintro e w1 ⟨rfl,hw⟩;obtain rfl:=hw.symm;have ht:=HT.out;unfold q0S at ht;rw [ht];clear ht;go_wp2_with fail;go_ret;exact ⟨by rw [HF.out];rfl,iter_below w s _⟩
  · have hnx:=fun ty=>run_next_end (P:=Tryz.prog) w s pos ty hp;have HF:Hid (okB s.data.toList=true):=by show _=_;rw [HR.out,drop_all hp];exact ok_nil
    go_wp2_with fail;go_ret;exact ⟨by rw [HF.out];rfl,iter_below w s _⟩
end Go.Proofs.YtbpopnafcpfifaaGreatDoor
