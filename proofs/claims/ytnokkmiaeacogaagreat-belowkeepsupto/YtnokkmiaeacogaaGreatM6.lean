import Derived.Test.YtnokkmiaeacogaaGreatM5
import Derived.Laws.IdiomStrings
set_option linter.unusedVariables false
set_option linter.unusedSimpArgs false
namespace Go.Proofs.YtnokkmiaeacogaaGreat
open Go.RowKit
theorem decL_pos (l:List UInt8):1≤(decL l).2:=by
 simp only [decL]
 repeat' split
 all_goals simp
def pcsF:Nat→List UInt8→List (Nat × Nat)
 | 0,_=>[]
 | f+1,l=>if l=[] then [] else decL l::pcsF f (l.drop (decL l).2)
def pcs (l:List UInt8):List (Nat × Nat):=pcsF l.length l
theorem pcsF_eq:∀ (f:Nat) (l:List UInt8),l.length≤f→pcsF f l=pcs l:=by
 intro f
 induction f using Nat.strongRecOn with
 | _ f ih=>
  intro l hl
  cases f with
  | zero=>
   have e:l=[]:=List.eq_nil_of_length_eq_zero (by omega);subst e;rfl
  | succ f=>
   by_cases hn:l=[]
   · subst hn;rfl
   · have hp:=decL_pos l;have hlen:0<l.length:=List.length_pos_iff.2 hn;obtain ⟨m,hm⟩:∃ m,l.length=m+1:=⟨l.length-1,by omega⟩;unfold pcs;rw [hm];simp only [pcsF,if_neg hn];rw [ih f (by omega) _ (by simp;omega)];rw [ih m (by omega) _ (by simp;omega)]
theorem pcs_cons {l:List UInt8} (h:l≠[]):pcs l=decL l::pcs (l.drop (decL l).2):=by
 have hlen:0<l.length:=List.length_pos_iff.2 h;obtain ⟨m,hm⟩:∃ m,l.length=m+1:=⟨l.length-1,by omega⟩;have hp:=decL_pos l;unfold pcs;rw [hm];simp only [pcsF,if_neg h];rw [pcsF_eq m _ (by simp;omega)];rfl
def runes (l:List UInt8):List Nat:=(pcs l).map (·.1)
theorem runes_cons {l:List UInt8} (h:l≠[]):runes l=(decL l).1::runes (l.drop (decL l).2):=by unfold runes;rw [pcs_cons h];rfl
def RS (w:World) (v:Value) (zs:List Nat):Prop:=∃ g cap,v= .slice (some ⟨g,0,none⟩) zs.length cap∧zs.length≤cap∧g<w.heap.size∧∀ i,i<zs.length→w.cell? ⟨g,i,none⟩=some (.int .i32 ((zs.getD i 0:Nat):Int))
theorem RS.keep {w w':World} {v:Value} {zs:List Nat} (h:RS w v zs) (hb:Below w.heap.size w w'):RS w' v zs:=by
 obtain ⟨g,cap,hv,hc,hg,hr⟩:=h;exact ⟨g,cap,hv,hc,Nat.lt_of_lt_of_le hg hb.size,fun i hi=>(hb.cell (p:=⟨g,i,none⟩) hg).trans (hr i hi)⟩
theorem runes_enc (n:Nat) (h:isR n) (post:List UInt8):runes (enc n++post)=n::runes post:=by
 have hl:=(enc_len n).1;have hne:enc n++post≠[]:=by intro e;have:=congrArg List.length e;rw [List.length_append,List.length_nil] at this;omega
 rw [runes_cons hne,dec_enc n h post];simp
theorem isR_of {n:Nat} (h:Utf8.valid (n:Int)=true):isR n:=by
 unfold Utf8.valid at h;unfold isR;simp only [Bool.or_eq_true,Bool.and_eq_true,decide_eq_true_eq] at h;omega
theorem u8_of {b:UInt8} {n:Nat} (h:n=b.toNat):UInt8.ofNat n=b:=by subst h;simp
theorem decL_cases (l:List UInt8) (h:l≠[]):(∃ n post,isR n∧l=enc n++post)∨decL l=(65533,1):=by
 obtain ⟨b0,t,rfl⟩:=List.exists_cons_of_ne_nil h;have l0:=b0.toNat_lt;by_cases c0:b0.toNat<0x80
 · left
   refine ⟨b0.toNat,t,by unfold isR;omega,?_⟩;unfold enc;rw [if_pos c0,u8_of rfl];rfl
 by_cases c1:b0.toNat / 32=6
 · have c2:¬ b0.toNat / 16=14:=by omega
   have c3:¬ b0.toNat / 8=30:=by omega
   cases t with
   | nil=>right;simp [decL,c0,c1,c2,c3]
   | cons b1 t=>
    have l1:=b1.toNat_lt;by_cases d1:b1.toNat / 64=2
    · by_cases hc:(b0.toNat%32)*64+b1.toNat%64≥0x80
      · left
        refine ⟨(b0.toNat%32)*64+b1.toNat%64,t,by unfold isR;omega,?_⟩;unfold enc;rw [if_neg (by omega),if_pos (by omega),u8_of (b:=b0) (by omega),u8_of (b:=b1) (by omega)];rfl
      · right;simp [decL,c0,c1,c2,c3,d1,hc]
    · right;simp [decL,c0,c1,c2,c3,d1]
 by_cases c2:b0.toNat / 16=14
 · have c3:¬ b0.toNat / 8=30:=by omega
   cases t with
   | nil=>right;simp [decL,c0,c1,c2,c3]
   | cons b1 t=>
    have l1:=b1.toNat_lt
    cases t with
    | nil=>right;simp [decL,c0,c1,c2,c3]
    | cons b2 t=>
     have l2:=b2.toNat_lt;by_cases d1:b1.toNat / 64=2
     · by_cases d2:b2.toNat / 64=2
       · obtain ⟨c,hcc⟩:∃ c,c=(b0.toNat%16)*4096+(b1.toNat%64)*64+b2.toNat%64:=⟨_,rfl⟩;by_cases hc:c≥0x800
         · cases hv:Utf8.valid (c:Int) with
           | true=>
            left
            refine ⟨c,t,isR_of hv,?_⟩;unfold enc;rw [if_neg (by omega),if_neg (by omega),if_pos (by omega),u8_of (b:=b0) (by omega),u8_of (b:=b1) (by omega),u8_of (b:=b2) (by omega)];rfl
           | false=>
            right
            simp only [decL,List.getD_cons_zero,List.getD_cons_succ,← hcc,hv];simp [c0,c1,c2,c3,d1,d2]
         · right
           simp only [decL,List.getD_cons_zero,List.getD_cons_succ,← hcc];simp [c0,c1,c2,c3,d1,d2,hc]
       · right;simp [decL,c0,c1,c2,c3,d1,d2]
     · right;simp [decL,c0,c1,c2,c3,d1]
 by_cases c3:b0.toNat / 8=30
 · cases t with
   | nil=>right;simp [decL,c0,c1,c2,c3]
   | cons b1 t=>
    have l1:=b1.toNat_lt
    cases t with
    | nil=>right;simp [decL,c0,c1,c2,c3]
    | cons b2 t=>
     have l2:=b2.toNat_lt
     cases t with
     | nil=>right;simp [decL,c0,c1,c2,c3]
     | cons b3 t=>
      have l3:=b3.toNat_lt;by_cases d1:b1.toNat / 64=2
      · by_cases d2:b2.toNat / 64=2
        · by_cases d3:b3.toNat / 64=2
          · obtain ⟨c,hcc⟩:∃ c,c=(b0.toNat%8)*262144+(b1.toNat%64)*4096+(b2.toNat%64)*64+b3.toNat%64:=⟨_,rfl⟩;by_cases hc:c≥0x10000
            · cases hv:Utf8.valid (c:Int) with
              | true=>
               left
               refine ⟨c,t,isR_of hv,?_⟩;unfold enc;rw [if_neg (by omega),if_neg (by omega),if_neg (by omega),u8_of (b:=b0) (by omega),u8_of (b:=b1) (by omega),u8_of (b:=b2) (by omega),u8_of (b:=b3) (by omega)];rfl
              | false=>
               right
               simp only [decL,List.getD_cons_zero,List.getD_cons_succ,← hcc,hv];simp [c0,c1,c2,c3,d1,d2,d3]
            · right
              simp only [decL,List.getD_cons_zero,List.getD_cons_succ,← hcc];simp [c0,c1,c2,c3,d1,d2,d3,hc]
          · right;simp [decL,c0,c1,c2,c3,d1,d2,d3]
        · right;simp [decL,c0,c1,c2,c3,d1,d2]
      · right;simp [decL,c0,c1,c2,c3,d1]
 · right;simp [decL,c0,c1,c2,c3]
theorem enc_err:enc 65533=[239,191,189]:=by decide
def off (l:List UInt8):Nat→Nat
 | 0=>0
 | k+1=>if l=[] then 0 else (decL l).2+off (l.drop (decL l).2) k
def txt (zs:List Nat):List UInt8:=zs.flatMap enc
def okB (l:List UInt8):Bool:=decide (txt (runes l)=l)
theorem ok_enc (n:Nat) (hn:isR n) (post:List UInt8):okB (enc n++post)=okB post:=by
 unfold okB;rw [runes_enc n hn post];have e:txt (n::runes post)=enc n++txt (runes post):=rfl;rw [e];by_cases h:txt (runes post)=post
 · rw [decide_eq_true h,decide_eq_true (by rw [h])]
 · rw [decide_eq_false h,decide_eq_false (fun h2=>h (List.append_cancel_left h2))]
theorem ok_stray (l:List UInt8) (h:l≠[]) (e:decL l=(65533,1)):okB l=false:=by
 unfold okB;refine decide_eq_false fun h2=> ?_;rw [runes_cons h,e] at h2;have e2:l=enc 65533++txt (runes (l.drop 1)):=h2.symm;have hd:=dec_enc 65533 (by unfold isR;omega) (txt (runes (l.drop 1)));rw [← e2,e,enc_err] at hd
 cases hd
inductive VT where
 | mk (kind:Int) (num text:ByteArray) (items:List VT) (keys:List ByteArray)
def VT.kind:VT→Int| .mk k _ _ _ _=>k
def VT.num:VT→ByteArray| .mk _ n _ _ _=>n
def VT.text:VT→ByteArray| .mk _ _ t _ _=>t
def VT.items:VT→List VT| .mk _ _ _ i _=>i
def VT.keys:VT→List ByteArray| .mk _ _ _ _ k=>k
structure KIn (W:World) (ko:Option Addr) (keys:List ByteArray):Prop where
 row:0<keys.length→∃ b off,ko=some ⟨b,off,none⟩∧b<W.heap.size∧∀ i,i<keys.length→W.cell? ⟨b,off+i,none⟩=some (.string (keys.getD i .empty))
theorem KIn.keep {W W':World} {ko:Option Addr} {keys:List ByteArray} (h:KIn W ko keys) (hb:Below W.heap.size W W'):KIn W' ko keys:=by
 refine ⟨fun h0=> ?_⟩;obtain ⟨b,off,e,hl,hc⟩:=h.row h0;exact ⟨b,off,e,Nat.lt_of_lt_of_le hl hb.size,fun i hi=>(hb.cell (p:=⟨b,off+i,none⟩) hl).trans (hc i hi)⟩
def InH (W:World):Nat→VT→Value→Prop
 | 0,_,_=>False
 | h+1,T,v=>∃ (io:Option Addr) (icap:Nat) (ko:Option Addr) (kcap:Nat),
    v= .agg #[.int .i64 T.kind,.string T.num,.string T.text,.slice io T.items.length icap,.slice ko T.keys.length kcap]∧
    T.num.size≤140737488355328∧T.text.size≤140737488355328∧T.items.length≤140737488355328∧T.keys.length≤140737488355328∧T.items.length≤icap∧T.keys.length≤kcap∧
    (∀ k∈T.keys,k.size≤140737488355328)∧KIn W ko T.keys∧
    (0<T.items.length→∃ b off,io=some ⟨b,off,none⟩∧b<W.heap.size∧∀ i,(hi:i<T.items.length)→∃ v0 v1 v2 v3 v4:Value,
     (W.cell? ⟨b,off+i*5,none⟩=some v0∧W.cell? ⟨b,off+i*5+1,none⟩=some v1∧W.cell? ⟨b,off+i*5+2,none⟩=some v2∧W.cell? ⟨b,off+i*5+3,none⟩=some v3∧W.cell? ⟨b,off+i*5+4,none⟩=some v4)∧InH W h T.items[i] (.agg #[v0,v1,v2,v3,v4]))
theorem InH.keep {W W':World} (hb:Below W.heap.size W W'):∀ {h:Nat} {T:VT} {v:Value},InH W h T v→InH W' h T v
 | 0,_,_,h=>h
 | h+1,T,v,hI=>by
  obtain ⟨io,icap,ko,kcap,e,a1,a2,a3,a4,a5,a6,a7,hk,hi⟩:=hI;refine ⟨io,icap,ko,kcap,e,a1,a2,a3,a4,a5,a6,a7,hk.keep hb,fun h0=> ?_⟩;obtain ⟨b,off,e2,hl,hc⟩:=hi h0;refine ⟨b,off,e2,Nat.lt_of_lt_of_le hl hb.size,fun i hil=> ?_⟩;obtain ⟨v0,v1,v2,v3,v4,⟨c0,c1,c2,c3,c4⟩,ht⟩:=hc i hil;exact ⟨v0,v1,v2,v3,v4,⟨(hb.cell (p:=⟨_,_,_⟩) hl).trans c0,(hb.cell (p:=⟨_,_,_⟩) hl).trans c1,(hb.cell (p:=⟨_,_,_⟩) hl).trans c2,(hb.cell (p:=⟨_,_,_⟩) hl).trans c3,(hb.cell (p:=⟨_,_,_⟩) hl).trans c4⟩,InH.keep hb ht⟩
structure IIn (W:World) (h:Nat) (io:Option Addr) (ts:List VT):Prop where
 row:0<ts.length→∃ b off,io=some ⟨b,off,none⟩∧b<W.heap.size∧∀ i,(hi:i<ts.length)→∃ v0 v1 v2 v3 v4:Value,
     (W.cell? ⟨b,off+i*5,none⟩=some v0∧W.cell? ⟨b,off+i*5+1,none⟩=some v1∧W.cell? ⟨b,off+i*5+2,none⟩=some v2∧W.cell? ⟨b,off+i*5+3,none⟩=some v3∧W.cell? ⟨b,off+i*5+4,none⟩=some v4)∧InH W h ts[i] (.agg #[v0,v1,v2,v3,v4])
theorem IIn.keep {W W':World} {h:Nat} {io:Option Addr} {ts:List VT} (hI:IIn W h io ts) (hb:Below W.heap.size W W'):IIn W' h io ts:=by
 refine ⟨fun h0=> ?_⟩;obtain ⟨b,off,e2,hl,hc⟩:=hI.row h0;refine ⟨b,off,e2,Nat.lt_of_lt_of_le hl hb.size,fun i hil=> ?_⟩;obtain ⟨v0,v1,v2,v3,v4,⟨c0,c1,c2,c3,c4⟩,ht⟩:=hc i hil;exact ⟨v0,v1,v2,v3,v4,⟨(hb.cell (p:=⟨_,_,_⟩) hl).trans c0,(hb.cell (p:=⟨_,_,_⟩) hl).trans c1,(hb.cell (p:=⟨_,_,_⟩) hl).trans c2,(hb.cell (p:=⟨_,_,_⟩) hl).trans c3,(hb.cell (p:=⟨_,_,_⟩) hl).trans c4⟩,InH.keep hb ht⟩
structure VBx (w u:World) (a b c d e:Value):Prop where
 below:Below w.heap.size w u
 c0:u.cell? ⟨w.heap.size,0,none⟩=some a
 c1:u.cell? ⟨w.heap.size,1,none⟩=some b
 c2:u.cell? ⟨w.heap.size,2,none⟩=some c
 c3:u.cell? ⟨w.heap.size,3,none⟩=some d
 c4:u.cell? ⟨w.heap.size,4,none⟩=some e
 lt:w.heap.size<u.heap.size
theorem VBx.keep {w u u':World} {a b c d e:Value} (h:VBx w u a b c d e) (hb:Below u.heap.size u u'):VBx w u' a b c d e:=
 ⟨h.below.trans (hb.mono h.below.size),(hb.cell (p:=⟨_,_,_⟩) h.lt).trans h.c0,(hb.cell (p:=⟨_,_,_⟩) h.lt).trans h.c1,(hb.cell (p:=⟨_,_,_⟩) h.lt).trans h.c2,(hb.cell (p:=⟨_,_,_⟩) h.lt).trans h.c3,(hb.cell (p:=⟨_,_,_⟩) h.lt).trans h.c4,Nat.lt_of_lt_of_le h.lt hb.size⟩
theorem VBx.drew {w u:World} {a b c d e:Value} (h:VBx w u a b c d e):VBx w u.drew a b c d e:=⟨h.below.drew,h.c0,h.c1,h.c2,h.c3,h.c4,h.lt⟩
end Go.Proofs.YtnokkmiaeacogaaGreat
