import Derived.Test.YtbpopnafcpfifaaGreatDoorM26
import Derived.Test.YtbpopnafcpfifaaGreatDoorM22
import Derived.Test.YtbpopnafcpfifaaGreatDoorM19
import Derived.Test.YtbpopnafcpfifaaGreatDoorM18
import Derived.Test.YtbpopnafcpfifaaGreatDoorM15
import Derived.Test.YtbpopnafcpfifaaGreatDoorM14
import Derived.Test.YtbpopnafcpfifaaGreatDoorM25
import Derived.Lib.AppendStr
import Derived.BigQuiet
import Derived.Test.YtbpopnafcpfifaaGreatDoorM23
import Derived.Test.YtbpopnafcpfifaaGreatDoorM2
set_option linter.unusedVariables false
set_option linter.unusedSimpArgs false
namespace Go.Proofs.YtbpopnafcpfifaaGreatDoor
open Go.RowKit Go.Shelf
set_option maxRecDepth 100000
set_option maxHeartbeats 12800000
def q2b (l:List UInt8) (p a b:Nat):Tok:=
 if (rpc l (l.length+1) (p+1) []).2.2.2=0 then (if (rpc l (l.length+1) (p+1) []).2.2.1=true then ⟨a,p,(rpc l (l.length+1) (p+1) []).2.1,txt (rpc l (l.length+1) (p+1) []).1,0⟩ else ⟨b,p,(rpc l (l.length+1) (p+1) []).2.1,txt (rpc l (l.length+1) (p+1) []).1,0⟩)
 else ⟨0,(rpc l (l.length+1) (p+1) []).2.1,0,[],(rpc l (l.length+1) (p+1) []).2.2.2⟩
theorem piece_eq {l:List UInt8} {p:Nat} (a b:Nat) (hp:p<l.length):q1r l p a b=q2b l p a b:=by
 have h:=piece_pc hp;unfold q1r q2b;generalize rpc l (l.length+1) (p+1) []=r at *;rcases h with ⟨h1,hu,hlt,h2⟩|⟨h1,_,hu,h3,_⟩
 · rw [hu,if_pos h1];dsimp only;rw [if_pos rfl];rcases h2 with ⟨h4,h5,hw⟩|⟨h4,h5,hw,_⟩
   · rw [if_neg (by rw [hw];decide),if_pos h4,h5]
   · rw [if_pos hw,if_neg (by rw [h4];decide),h5]
 · rw [hu,if_neg h1];dsimp only;rw [if_neg h1,show p+(r.2.1-p)=r.2.1 by omega]
def tkC (l:List UInt8) (op:List Nat) (p:Nat):Tok:=
 if leB (l.getD p 0)=true then nameT l p
 else if (l.getD p 0).toNat=36 then varT l p
 else if (l.getD p 0).toNat=46∧q0e l (p+1)≠[] then q2u l p
 else if dgB (l.getD p 0)=true then q1S l p
 else if (l.getD p 0).toNat=34 then q2b l p 6 7
 else if (l.getD p 0).toNat=41∧clsB op=true then q2b l p 9 8
 else q1F l p
theorem tok_eq {l:List UInt8} {op:List Nat} {p:Nat} (hp:p<l.length):tokW l op p=tkC l op p:=by
 unfold tokW tkC;rw [piece_eq 6 7 hp,piece_eq 9 8 hp]
instance:DecidableEq Tok:=fun ⟨k,a,f,t,e⟩ ⟨k',a',f',t',e'⟩=>
 if h:k=k'∧a=a'∧f=f'∧t=t'∧e=e' then isTrue (by obtain ⟨rfl,rfl,rfl,rfl,rfl⟩:=h;rfl) else isFalse (fun g=>h (by cases g;exact ⟨rfl,rfl,rfl,rfl,rfl⟩))
end Go.Proofs.YtbpopnafcpfifaaGreatDoor
namespace Go.Proofs.YtbpopnafcpfifaaGreatDoor
open Go.RowKit
set_option maxRecDepth 100000
set_option maxHeartbeats 12800000
theorem rpc_up {l:List UInt8}:∀ (f i:Nat) (acc:List Nat),i≤l.length→l.length-i<f→rpc l (f+1) i acc=rpc l f i acc:=by
 intro f
 induction f with
 | zero=>intro i acc _ h;omega
 | succ f ih=>
  intro i acc hi hf
  have e:∀ g,rpc l (g+1) i acc=if i<l.length then
   if (l.getD i 0).toNat=34 then (acc,i+1,true,0)
   else if inwB l i=true then (acc,i+2,false,0)
   else if (l.getD i 0).toNat=92 then (if (escL l i).2.2=0 then rpc l g (escL l i).2.1 (acc++[(escL l i).1]) else ([],i,false,(escL l i).2.2))
   else if (l.getD i 0).toNat<32 then ([],i,false,22)
   else if q0p (l.drop i)=true then ([],i,false,20)
   else rpc l g (i+(decL (l.drop i)).2) (acc++[(decL (l.drop i)).1])
  else ([],l.length,false,21):=fun g=>rfl
  rw [e (f+1),e f];by_cases h1:i<l.length
  · have hd:=q1d (l.drop i);have hdl:=q2p (l.drop i) (fun e=>by have:=congrArg List.length e;rw [List.length_drop] at this;simp at this;omega);rw [List.length_drop] at hdl;by_cases h5:(escL l i).2.2=0
    · obtain ⟨g1,g2,_⟩:=q2r h5;rw [ih _ _ g2 (by omega),ih _ _ (by omega) (by omega)]
    · rw [if_neg h5,if_neg h5,ih _ _ (by omega) (by omega)]
  · rw [if_neg h1,if_neg h1]
theorem rpc_more {l:List UInt8} {i:Nat} {acc:List Nat} (hi:i≤l.length):∀ (k f:Nat),l.length-i<f→rpc l (f+k) i acc=rpc l f i acc:=by
 intro k
 induction k with
 | zero=>intro f _;rfl
 | succ k ih=>intro f h;rw [show f+(k+1)=(f+k)+1 by omega,rpc_up _ _ _ hi (by omega)];exact ih f h
theorem rpc_any {l:List UInt8} {i f g:Nat} {acc:List Nat} (hi:i≤l.length) (hf:l.length-i<f) (hg:l.length-i<g):rpc l f i acc=rpc l g i acc:=by
 rcases Nat.le_total f g with h|h
 · rw [show g=f+(g-f) by omega,rpc_more hi _ _ hf]
 · rw [show f=g+(f-g) by omega,rpc_more hi _ _ hg]
theorem rpc_def {l:List UInt8} {i:Nat} {acc:List Nat} (h:i<l.length):rpc l (l.length+1) i acc=if (l.getD i 0).toNat=34 then (acc,i+1,true,0)
 else if inwB l i=true then (acc,i+2,false,0)
 else if (l.getD i 0).toNat=92 then (if (escL l i).2.2=0 then rpc l (l.length+1) (escL l i).2.1 (acc++[(escL l i).1]) else ([],i,false,(escL l i).2.2))
 else if (l.getD i 0).toNat<32 then ([],i,false,22)
 else if q0p (l.drop i)=true then ([],i,false,20)
 else rpc l (l.length+1) (i+(decL (l.drop i)).2) (acc++[(decL (l.drop i)).1]):=by
 have hd:=q1d (l.drop i);have hdl:=q2p (l.drop i) (fun e=>by have:=congrArg List.length e;rw [List.length_drop] at this;simp at this;omega);rw [List.length_drop] at hdl;rw [rpc,if_pos h];by_cases h5:(escL l i).2.2=0
 · obtain ⟨g1,g2,_⟩:=q2r h5;rw [rpc_any (g:=l.length+1) g2 (by omega) (by omega),rpc_any (f:=l.length) (g:=l.length+1) (i:=i+(decL (l.drop i)).2) (by omega) (by omega) (by omega)]
 · rw [if_neg h5,if_neg h5,rpc_any (f:=l.length) (g:=l.length+1) (i:=i+(decL (l.drop i)).2) (by omega) (by omega) (by omega)]
theorem rpc_out {l:List UInt8} {i:Nat} {acc:List Nat} (h:¬ i<l.length):rpc l (l.length+1) i acc=([],l.length,false,21):=by rw [rpc,if_neg h]
theorem prow_first (t:ByteArray) (n:Nat) (hn:0<n):∃ r,prow t n=[.int .i64 ((off t.data.toList 0:Nat):Int),.int .i64 ((off t.data.toList 0+(decL (t.data.toList.drop (off t.data.toList 0))).2:Nat):Int),.int .i64 ((decL (t.data.toList.drop (off t.data.toList 0))).1:Int),.bool (q0p (t.data.toList.drop (off t.data.toList 0)))]++r:=by
 obtain ⟨m,rfl⟩:∃ m,n=m+1:=⟨n-1,by omega⟩;unfold prow;rw [List.range_succ_eq_map,List.flatMap_cons];exact ⟨_,rfl⟩
end Go.Proofs.YtbpopnafcpfifaaGreatDoor
namespace Go.Proofs.YtbpopnafcpfifaaGreatDoor
open Go.RowKit Go.Shelf
set_option maxRecDepth 100000
set_option maxHeartbeats 12800000
theorem named_name {l:List UInt8} {q:Nat} (hq:q<l.length) (h:leB (l.getD q 0)=true):namedB (q0e l q)=true:=by
 have hbe:=q0R inB (l:=l) (p:=q) (by omega);have hgt:=bhP_gt (P:=inB) hq (by unfold inB;rw [h];rfl);have hn:q0e l q=cut l q (bhP inB l q):=by unfold q0e;rw [if_pos ⟨hq,h⟩]
 have hin:=fun j (h1:q≤j) (h2:j<bhP inB l q)=>bhP_in (P:=inB) (l:=l) _ q j (Nat.le_refl _) (by omega) h1 h2;rw [hn];generalize bhP inB l q=e at *;have hl:(cut l q e).length=e-q:=q1P hbe.2
 have hgd:∀ j,j<e-q→(cut l q e).getD j 0=l.getD (q+j) 0:=fun j hj=>by
  unfold cut;simp [List.getD,List.getElem?_take,hj,List.getElem?_drop]
 have hne:cut l q e≠[]:=fun e2=>by rw [e2] at hl;simp at hl;omega
 rw [namedB_of hne (by rw [hgd 0 (by omega),Nat.add_zero];exact h)];apply decide_eq_true
 have hall:∀ k,k≤e-q→bhP inB (cut l q e) 0=bhP inB (cut l q e) k:=by
  intro k
  induction k with
  | zero=>intro _;rfl
  | succ k ih=>
   intro hk;rw [ih (by omega),q0L (by omega) (by rw [hgd k (by omega)];exact hin _ (by omega) (by omega))]
 rw [hall (e-q) (Nat.le_refl _),← hl,q1M]
theorem plain_name {l:List UInt8} {q:Nat}:plainW (q0e l q)=(decide (q<l.length∧leB (l.getD q 0)=true)&& !ownB (q0e l q)):=by
 unfold plainW;by_cases h:q<l.length∧leB (l.getD q 0)=true
 · rw [named_name h.1 h.2,decide_eq_true h]
 · rw [decide_eq_false h];have hn:q0e l q=[]:=by unfold q0e;rw [if_neg h]
   rw [hn];rfl
def plT (l:List UInt8) (p:Nat):Tok:=
 if leB (l.getD p 0)=true then nameT l p
 else if (l.getD p 0).toNat=36 then varT l p
 else if (l.getD p 0).toNat=46∧q0e l (p+1)≠[] then q2u l p
 else if dgB (l.getD p 0)=true then q1S l p
 else q1F l p
theorem plT_eq {l:List UInt8} {op:List Nat} {p:Nat} (h34:(l.getD p 0).toNat≠34) (hcl:¬ ((l.getD p 0).toNat=41∧clsB op=true)):tokW l op p=plT l p:=by
 unfold tokW plT;rw [if_neg h34,if_neg hcl]
def PlR (t:Tok) (p:Nat) (w w':World) (e:Ending):Prop:=((t.err=0∧e= .returned (.tuple #[tokV t,.int .i64 0]))∨(t.err≠0∧t.at_=p∧e= .returned (.tuple #[tokV ⟨0,0,0,[],0⟩,.int .i64 (t.err:Int)])))∧Below w.heap.size w w'
theorem w_plA (s:ByteArray) (p:Nat) (w:World) (hp:p<s.size) (hs:s.size≤1073741824) (hle:leB s[p]=true):
 Calls Tryz.prog 16 #[.string s,.int .i64 (p:Int)] w fun e w'=>PlR (plT s.data.toList p) p w w' e:=by
 have HLe:=hQz (fun u=>q0G s[p] u);have HDg:=hQz (fun u=>q1w s[p] u);have hgd:=q0f hp;have hi0:(0:Int)≤(p:Int):=by omega
 have hi1:(p:Int)<(s.size:Int):=by omega
 obtain ⟨xi,hxi⟩:∃ xi:Int,((s[p].toNat:Nat):Int)=xi:=⟨_,rfl⟩;rw [hxi] at HLe HDg;have hlt:p<s.data.toList.length:=by rw [q08];exact hp
 unfold plT;rw [hgd];rw [if_pos hle];rw [hle] at HLe;unfold nameT;have HNE:=hQz (fun u=>w_nameEnd s p u (by omega) (by omega));have hbe:=q0R inB (l:=s.data.toList) (p:=p) (by rw [q08];omega);have hnW:q0e s.data.toList p=cut s.data.toList p (bhP inB s.data.toList p):=by unfold q0e;rw [if_pos ⟨hlt,by rw [hgd];exact hle⟩]
 have HXT:=hQz (q1R s p (bhP inB s.data.toList p) (by rw [← q08];exact hbe.2));have hcl:=q1P (l:=s.data.toList) (a:=p) hbe.2;rw [q08] at hbe;rw [← hnW] at HXT hcl;have HRs:=hQz (fun u=>q2S (s.extract p (bhP inB s.data.toList p)) u);rw [show (s.extract p (bhP inB s.data.toList p)).data.toList=q0e s.data.toList p by rw [HXT.out]] at HRs;clear hnW;generalize q0e s.data.toList p=nm at *;generalize bhP inB s.data.toList p=q at *;obtain ⟨hpq,hqs⟩:=hbe;have hj1:(p:Int)≤(q:Int):=by omega
 have hj2:(q:Int)≤(s.size:Int):=by omega
 have HCL:=hQz hcl;clear hcl
 cases ho:ownB nm with
 | false=>
  rw [ho] at HRs;clear ho;go_enter Tryz.func16,Tryz.ntmps16;go_wp2_with fail;refine (HLe.out _).mono ?_;rintro e wq ⟨rfl,hwq⟩;obtain rfl:=hwq.symm;go_wp2_with fail;refine (HNE.out _).mono ?_;rintro e wq ⟨rfl,hwq⟩;obtain rfl:=hwq.symm;go_wp2_with fail;refine (HRs.out _).mono ?_;rintro e wq ⟨rfl,hwq⟩;obtain rfl:=hwq.symm;obtain ⟨W,hW⟩:∃ W,w.alloc q09=W:=⟨_,rfl⟩;have hX:=heap_alloc_new w q09;rw [hW] at hX;have HX:=hQz hX;have hb:=q0a w q09;rw [hW] at hb;have HB:=hQz hb;obtain ⟨kc0,kc1,kc2,kc3,kf0,kf1,kf2,kf3⟩:=q02 hX;unfold q09 at hW;(try rw [hW])
  clear hX hb;go_wp2_with fail;(try simp only [Exit.inBlock,Exit.then])
  generalize hz:((((W).setCell ⟨w.heap.size,0,none⟩ (.int .i64 1)).setCell ⟨w.heap.size,1,none⟩ (.int .i64 (p:Int))).setCell ⟨w.heap.size,2,none⟩ (.int .i64 (q:Int))).setCell ⟨w.heap.size,3,none⟩ (.string (s.extract p q))=wz;obtain ⟨z1,z2,z3,z4⟩:=q0g _ _ _ _ _ _ _ _ _ _ _ HX.out wz hz.symm;obtain ⟨hd0,hd1,hd2,hd3,_⟩:=q02 z1;refine bodyPost_ret (v:= .tuple #[.agg #[.int .i64 1,.int .i64 (p:Int),.int .i64 (q:Int),.string (s.extract p q)],.int .i64 0]) (by simp [results,Tryz.results16,go_sem,hd0,hd1,hd2,hd3]) rfl ?_;refine ⟨.inl ⟨rfl,?_⟩,HB.out.trans (z4 _ (Nat.le_refl _))⟩;unfold tokV;dsimp only;rw [← HXT.out,show p+nm.length=q by rw [HCL.out];omega]
  first|rfl|simp
 | true=>
  rw [ho] at HRs;clear ho;go_enter Tryz.func16,Tryz.ntmps16;go_wp2_with fail;refine (HLe.out _).mono ?_;rintro e wq ⟨rfl,hwq⟩;obtain rfl:=hwq.symm;go_wp2_with fail;refine (HNE.out _).mono ?_;rintro e wq ⟨rfl,hwq⟩;obtain rfl:=hwq.symm;go_wp2_with fail;refine (HRs.out _).mono ?_;rintro e wq ⟨rfl,hwq⟩;obtain rfl:=hwq.symm;obtain ⟨W,hW⟩:∃ W,w.alloc q09=W:=⟨_,rfl⟩;have hX:=heap_alloc_new w q09;rw [hW] at hX;have HX:=hQz hX;have hb:=q0a w q09;rw [hW] at hb;have HB:=hQz hb;obtain ⟨kc0,kc1,kc2,kc3,kf0,kf1,kf2,kf3⟩:=q02 hX;unfold q09 at hW;(try rw [hW])
  clear hX hb;go_wp2_with fail;(try simp only [Exit.inBlock,Exit.then])
  generalize hz:((((W).setCell ⟨w.heap.size,0,none⟩ (.int .i64 2)).setCell ⟨w.heap.size,1,none⟩ (.int .i64 (p:Int))).setCell ⟨w.heap.size,2,none⟩ (.int .i64 (q:Int))).setCell ⟨w.heap.size,3,none⟩ (.string (s.extract p q))=wz;obtain ⟨z1,z2,z3,z4⟩:=q0g _ _ _ _ _ _ _ _ _ _ _ HX.out wz hz.symm;obtain ⟨hd0,hd1,hd2,hd3,_⟩:=q02 z1;refine bodyPost_ret (v:= .tuple #[.agg #[.int .i64 2,.int .i64 (p:Int),.int .i64 (q:Int),.string (s.extract p q)],.int .i64 0]) (by simp [results,Tryz.results16,go_sem,hd0,hd1,hd2,hd3]) rfl ?_;refine ⟨.inl ⟨rfl,?_⟩,HB.out.trans (z4 _ (Nat.le_refl _))⟩;unfold tokV;dsimp only;rw [← HXT.out,show p+nm.length=q by rw [HCL.out];omega]
  first|rfl|simp
theorem w_plB (s:ByteArray) (p:Nat) (w:World) (hp:p<s.size) (hs:s.size≤1073741824) (hle:leB s[p]=false) (hc:s[p].toNat=36) (h1:p+1<s.size) (hl1:leB s[p+1]=true):
 Calls Tryz.prog 16 #[.string s,.int .i64 (p:Int)] w fun e w'=>PlR (plT s.data.toList p) p w w' e:=by
 have HLe:=hQz (fun u=>q0G s[p] u);have HDg:=hQz (fun u=>q1w s[p] u);have hgd:=q0f hp;have hi0:(0:Int)≤(p:Int):=by omega
 have hi1:(p:Int)<(s.size:Int):=by omega
 obtain ⟨xi,hxi⟩:∃ xi:Int,((s[p].toNat:Nat):Int)=xi:=⟨_,rfl⟩;rw [hxi] at HLe HDg;have hlt:p<s.data.toList.length:=by rw [q08];exact hp
 unfold plT;rw [hgd];rw [if_neg (by rw [hle];decide)];rw [hle] at HLe;have hgd1:=q0f h1;have hlt1:p+1<s.data.toList.length:=by rw [q08];exact h1
 have hi2:(p:Int)+1<(s.size:Int):=by omega
 have hi3:(0:Int)≤(p:Int)+1:=by omega
 have HL1:=hQz (fun u=>q0G s[p+1] u);rw [hl1] at HL1;rw [if_pos hc];unfold varT;rw [plain_name,decide_eq_true ⟨hlt1,by rw [hgd1];exact hl1⟩,Bool.true_and];obtain rfl:36=xi:=by omega
 have HNE:=hQz (fun u=>w_nameEnd s (p+1) u (by omega) (by omega));have hbe:=q0R inB (l:=s.data.toList) (p:=(p+1)) (by rw [q08];omega);have hnW:q0e s.data.toList (p+1)=cut s.data.toList (p+1) (bhP inB s.data.toList (p+1)):=by unfold q0e;rw [if_pos ⟨hlt1,by rw [hgd1];exact hl1⟩]
 have HXT:=hQz (q1R s (p+1) (bhP inB s.data.toList (p+1)) (by rw [← q08];exact hbe.2));have hcl:=q1P (l:=s.data.toList) (a:=(p+1)) hbe.2;rw [q08] at hbe;rw [← hnW] at HXT hcl;have HRs:=hQz (fun u=>q2S (s.extract (p+1) (bhP inB s.data.toList (p+1))) u);rw [show (s.extract (p+1) (bhP inB s.data.toList (p+1))).data.toList=q0e s.data.toList (p+1) by rw [HXT.out]] at HRs;clear hnW;generalize q0e s.data.toList (p+1)=nm at *;generalize bhP inB s.data.toList (p+1)=q at *;obtain ⟨hpq,hqs⟩:=hbe;have hj1:(p:Int)+1≤(q:Int):=by omega
 have hj2:(q:Int)≤(s.size:Int):=by omega
 have HCL:=hQz hcl;clear hcl;rw [show ((p+1:Nat):Int)=(p:Int)+1 by omega] at HNE
 cases ho:ownB nm with
 | false=>
  rw [ho] at HRs;clear ho;rw [if_pos (by decide)];go_enter Tryz.func16,Tryz.ntmps16;go_wp2_with fail;refine (HLe.out _).mono ?_;rintro e wq ⟨rfl,hwq⟩;obtain rfl:=hwq.symm;go_wp2_with fail;refine (HL1.out _).mono ?_;rintro e wq ⟨rfl,hwq⟩;obtain rfl:=hwq.symm;go_wp2_with fail;refine (HNE.out _).mono ?_;rintro e wq ⟨rfl,hwq⟩;obtain rfl:=hwq.symm;go_wp2_with fail;refine (HRs.out _).mono ?_;rintro e wq ⟨rfl,hwq⟩;obtain rfl:=hwq.symm;obtain ⟨W,hW⟩:∃ W,w.alloc q09=W:=⟨_,rfl⟩;have hX:=heap_alloc_new w q09;rw [hW] at hX;have HX:=hQz hX;have hb:=q0a w q09;rw [hW] at hb;have HB:=hQz hb;obtain ⟨kc0,kc1,kc2,kc3,kf0,kf1,kf2,kf3⟩:=q02 hX;unfold q09 at hW;(try rw [hW])
  clear hX hb;go_wp2_with fail;(try simp only [Exit.inBlock,Exit.then])
  generalize hz:((((W).setCell ⟨w.heap.size,0,none⟩ (.int .i64 3)).setCell ⟨w.heap.size,1,none⟩ (.int .i64 (p:Int))).setCell ⟨w.heap.size,2,none⟩ (.int .i64 (q:Int))).setCell ⟨w.heap.size,3,none⟩ (.string (s.extract (p+1) q))=wz;obtain ⟨z1,z2,z3,z4⟩:=q0g _ _ _ _ _ _ _ _ _ _ _ HX.out wz hz.symm;obtain ⟨hd0,hd1,hd2,hd3,_⟩:=q02 z1;refine bodyPost_ret (v:= .tuple #[.agg #[.int .i64 3,.int .i64 (p:Int),.int .i64 (q:Int),.string (s.extract (p+1) q)],.int .i64 0]) (by simp [results,Tryz.results16,go_sem,hd0,hd1,hd2,hd3]) rfl ?_;refine ⟨.inl ⟨rfl,?_⟩,HB.out.trans (z4 _ (Nat.le_refl _))⟩;unfold tokV;dsimp only;rw [← HXT.out,show p+1+nm.length=q by rw [HCL.out];omega]
  first|rfl|simp
 | true=>
  rw [ho] at HRs;clear ho;rw [if_neg (by decide)];go_enter Tryz.func16,Tryz.ntmps16;go_wp2_with fail;refine (HLe.out _).mono ?_;rintro e wq ⟨rfl,hwq⟩;obtain rfl:=hwq.symm;go_wp2_with fail;refine (HL1.out _).mono ?_;rintro e wq ⟨rfl,hwq⟩;obtain rfl:=hwq.symm;go_wp2_with fail;refine (HNE.out _).mono ?_;rintro e wq ⟨rfl,hwq⟩;obtain rfl:=hwq.symm;go_wp2_with fail;refine (HRs.out _).mono ?_;rintro e wq ⟨rfl,hwq⟩;obtain rfl:=hwq.symm;obtain ⟨W,hW⟩:∃ W,w.alloc q09=W:=⟨_,rfl⟩;have hX:=heap_alloc_new w q09;rw [hW] at hX;have HX:=hQz hX;have hb:=q0a w q09;rw [hW] at hb;have HB:=hQz hb;obtain ⟨kc0,kc1,kc2,kc3,kf0,kf1,kf2,kf3⟩:=q02 hX;unfold q09 at hW;(try rw [hW])
  clear hX hb;go_wp2_with fail;(try simp only [Exit.inBlock,Exit.then])
  generalize hz:((((W).setCell ⟨w.heap.size,0,none⟩ (.int .i64 0)).setCell ⟨w.heap.size,1,none⟩ (.int .i64 0)).setCell ⟨w.heap.size,2,none⟩ (.int .i64 0)).setCell ⟨w.heap.size,3,none⟩ (.string ⟨#[]⟩)=wz;obtain ⟨z1,z2,z3,z4⟩:=q0g _ _ _ _ _ _ _ _ _ _ _ HX.out wz hz.symm;obtain ⟨hd0,hd1,hd2,hd3,_⟩:=q02 z1;refine bodyPost_ret (v:= .tuple #[.agg #[.int .i64 0,.int .i64 0,.int .i64 0,.string ⟨#[]⟩],.int .i64 160]) (by simp [results,Tryz.results16,go_sem,hd0,hd1,hd2,hd3]) rfl ?_;exact ⟨.inr ⟨by simp,rfl,rfl⟩,HB.out.trans (z4 _ (Nat.le_refl _))⟩
theorem w_plC (s:ByteArray) (p:Nat) (w:World) (hp:p<s.size) (hs:s.size≤1073741824) (hle:leB s[p]=false) (hc:s[p].toNat=46) (h1:p+1<s.size) (hl1:leB s[p+1]=true):
 Calls Tryz.prog 16 #[.string s,.int .i64 (p:Int)] w fun e w'=>PlR (plT s.data.toList p) p w w' e:=by
 have HLe:=hQz (fun u=>q0G s[p] u);have HDg:=hQz (fun u=>q1w s[p] u);have hgd:=q0f hp;have hi0:(0:Int)≤(p:Int):=by omega
 have hi1:(p:Int)<(s.size:Int):=by omega
 obtain ⟨xi,hxi⟩:∃ xi:Int,((s[p].toNat:Nat):Int)=xi:=⟨_,rfl⟩;rw [hxi] at HLe HDg;have hlt:p<s.data.toList.length:=by rw [q08];exact hp
 unfold plT;rw [hgd];rw [if_neg (by rw [hle];decide)];rw [hle] at HLe;have hgd1:=q0f h1;have hlt1:p+1<s.data.toList.length:=by rw [q08];exact h1
 have hi2:(p:Int)+1<(s.size:Int):=by omega
 have hi3:(0:Int)≤(p:Int)+1:=by omega
 have HL1:=hQz (fun u=>q0G s[p+1] u);rw [hl1] at HL1;have hpos:=nameW_pos hlt1 (by rw [hgd1];exact hl1);rw [if_neg (by omega),if_pos ⟨hc,fun e=>by rw [e] at hpos;simp at hpos⟩];unfold q2u;clear hpos;obtain rfl:46=xi:=by omega
 have HNE:=hQz (fun u=>w_nameEnd s (p+1) u (by omega) (by omega));have hbe:=q0R inB (l:=s.data.toList) (p:=(p+1)) (by rw [q08];omega);have hnW:q0e s.data.toList (p+1)=cut s.data.toList (p+1) (bhP inB s.data.toList (p+1)):=by unfold q0e;rw [if_pos ⟨hlt1,by rw [hgd1];exact hl1⟩]
 have HXT:=hQz (q1R s (p+1) (bhP inB s.data.toList (p+1)) (by rw [← q08];exact hbe.2));have hcl:=q1P (l:=s.data.toList) (a:=(p+1)) hbe.2;rw [q08] at hbe;rw [← hnW] at HXT hcl;have HRs:=hQz (fun u=>q2S (s.extract (p+1) (bhP inB s.data.toList (p+1))) u);rw [show (s.extract (p+1) (bhP inB s.data.toList (p+1))).data.toList=q0e s.data.toList (p+1) by rw [HXT.out]] at HRs;clear hnW;generalize q0e s.data.toList (p+1)=nm at *;generalize bhP inB s.data.toList (p+1)=q at *;obtain ⟨hpq,hqs⟩:=hbe;have hj1:(p:Int)+1≤(q:Int):=by omega
 have hj2:(q:Int)≤(s.size:Int):=by omega
 have HCL:=hQz hcl;clear hcl;rw [show ((p+1:Nat):Int)=(p:Int)+1 by omega] at HNE;clear HRs;go_enter Tryz.func16,Tryz.ntmps16;go_wp2_with fail;refine (HLe.out _).mono ?_;rintro e wq ⟨rfl,hwq⟩;obtain rfl:=hwq.symm;go_wp2_with fail;refine (HL1.out _).mono ?_;rintro e wq ⟨rfl,hwq⟩;obtain rfl:=hwq.symm;go_wp2_with fail;refine (HNE.out _).mono ?_;rintro e wq ⟨rfl,hwq⟩;obtain rfl:=hwq.symm;obtain ⟨W,hW⟩:∃ W,w.alloc q09=W:=⟨_,rfl⟩;have hX:=heap_alloc_new w q09;rw [hW] at hX;have HX:=hQz hX;have hb:=q0a w q09;rw [hW] at hb;have HB:=hQz hb;obtain ⟨kc0,kc1,kc2,kc3,kf0,kf1,kf2,kf3⟩:=q02 hX;unfold q09 at hW;(try rw [hW])
 clear hX hb;go_wp2_with fail;(try simp only [Exit.inBlock,Exit.then])
 generalize hz:((((W).setCell ⟨w.heap.size,0,none⟩ (.int .i64 4)).setCell ⟨w.heap.size,1,none⟩ (.int .i64 (p:Int))).setCell ⟨w.heap.size,2,none⟩ (.int .i64 (q:Int))).setCell ⟨w.heap.size,3,none⟩ (.string (s.extract (p+1) q))=wz;obtain ⟨z1,z2,z3,z4⟩:=q0g _ _ _ _ _ _ _ _ _ _ _ HX.out wz hz.symm;obtain ⟨hd0,hd1,hd2,hd3,_⟩:=q02 z1;refine bodyPost_ret (v:= .tuple #[.agg #[.int .i64 4,.int .i64 (p:Int),.int .i64 (q:Int),.string (s.extract (p+1) q)],.int .i64 0]) (by simp [results,Tryz.results16,go_sem,hd0,hd1,hd2,hd3]) rfl ?_;refine ⟨.inl ⟨rfl,?_⟩,HB.out.trans (z4 _ (Nat.le_refl _))⟩;unfold tokV;dsimp only;rw [← HXT.out,show p+1+nm.length=q by rw [HCL.out];omega]
 first|rfl|simp
theorem w_plE (s:ByteArray) (p:Nat) (w:World) (hp:p<s.size) (hs:s.size≤1073741824) (hle:leB s[p]=false) (h36:¬ s[p].toNat=36) (h46:¬ s[p].toNat=46) (hdg:dgB s[p]=true):
 Calls Tryz.prog 16 #[.string s,.int .i64 (p:Int)] w fun e w'=>PlR (plT s.data.toList p) p w w' e:=by
 have HLe:=hQz (fun u=>q0G s[p] u);have HDg:=hQz (fun u=>q1w s[p] u);have hgd:=q0f hp;have hi0:(0:Int)≤(p:Int):=by omega
 have hi1:(p:Int)<(s.size:Int):=by omega
 obtain ⟨xi,hxi⟩:∃ xi:Int,((s[p].toNat:Nat):Int)=xi:=⟨_,rfl⟩;rw [hxi] at HLe HDg;have hlt:p<s.data.toList.length:=by rw [q08];exact hp
 unfold plT;rw [hgd];rw [if_neg (by rw [hle];decide)];rw [hle] at HLe;rw [if_neg h36,if_neg (fun h=>h46 h.1)];have i36:¬ xi=36:=by omega
 have i46:¬ xi=46:=by omega
 rw [if_pos hdg];rw [hdg] at HDg;have HNE:=hQz (fun u=>w_numEnd s p u (by omega) (by omega));have hbe:=q0R nuB (l:=s.data.toList) (p:=p) (by rw [q08];omega);have HXT:=hQz (q1R s p (bhP nuB s.data.toList p) (by rw [← q08];exact hbe.2));rw [q08] at hbe;unfold q1S;have HFo:=hQz (fun u=>w_rFormed (s.extract p (bhP nuB s.data.toList p)) u (Nat.le_trans (ext_le s p _) (by unfold maxLen;omega)));rw [show (s.extract p (bhP nuB s.data.toList p)).data.toList=cut s.data.toList p (bhP nuB s.data.toList p) by rw [HXT.out]] at HFo;generalize bhP nuB s.data.toList p=q at *;obtain ⟨hpq,hqs⟩:=hbe;have hj1:(p:Int)≤(q:Int):=by omega
 have hj2:(q:Int)≤(s.size:Int):=by omega
 cases ho:Pl.formed (cut s.data.toList p q) with
 | true=>
  rw [ho] at HFo;rw [if_pos rfl];clear ho;go_enter Tryz.func16,Tryz.ntmps16;go_wp2_with fail;refine (HLe.out _).mono ?_;rintro e wq ⟨rfl,hwq⟩;obtain rfl:=hwq.symm;go_wp2_with fail;refine (HDg.out _).mono ?_;rintro e wq ⟨rfl,hwq⟩;obtain rfl:=hwq.symm;go_wp2_with fail;refine (HNE.out _).mono ?_;rintro e wq ⟨rfl,hwq⟩;obtain rfl:=hwq.symm;go_wp2_with fail;refine (HFo.out _).mono ?_;rintro e wq ⟨rfl,hwq⟩;obtain rfl:=hwq.symm;obtain ⟨W,hW⟩:∃ W,w.alloc q09=W:=⟨_,rfl⟩;have hX:=heap_alloc_new w q09;rw [hW] at hX;have HX:=hQz hX;have hb:=q0a w q09;rw [hW] at hb;have HB:=hQz hb;obtain ⟨kc0,kc1,kc2,kc3,kf0,kf1,kf2,kf3⟩:=q02 hX;unfold q09 at hW;(try rw [hW])
  clear hX hb;go_wp2_with fail;(try simp only [Exit.inBlock,Exit.then])
  generalize hz:((((W).setCell ⟨w.heap.size,0,none⟩ (.int .i64 5)).setCell ⟨w.heap.size,1,none⟩ (.int .i64 (p:Int))).setCell ⟨w.heap.size,2,none⟩ (.int .i64 (q:Int))).setCell ⟨w.heap.size,3,none⟩ (.string (s.extract p q))=wz;obtain ⟨z1,z2,z3,z4⟩:=q0g _ _ _ _ _ _ _ _ _ _ _ HX.out wz hz.symm;obtain ⟨hd0,hd1,hd2,hd3,_⟩:=q02 z1;refine bodyPost_ret (v:= .tuple #[.agg #[.int .i64 5,.int .i64 (p:Int),.int .i64 (q:Int),.string (s.extract p q)],.int .i64 0]) (by simp [results,Tryz.results16,go_sem,hd0,hd1,hd2,hd3]) rfl ?_;refine ⟨.inl ⟨rfl,?_⟩,HB.out.trans (z4 _ (Nat.le_refl _))⟩;unfold tokV;dsimp only;rw [← HXT.out]
  first|rfl|simp
 | false=>
  rw [ho] at HFo;rw [if_neg (by decide)];clear ho;go_enter Tryz.func16,Tryz.ntmps16;go_wp2_with fail;refine (HLe.out _).mono ?_;rintro e wq ⟨rfl,hwq⟩;obtain rfl:=hwq.symm;go_wp2_with fail;refine (HDg.out _).mono ?_;rintro e wq ⟨rfl,hwq⟩;obtain rfl:=hwq.symm;go_wp2_with fail;refine (HNE.out _).mono ?_;rintro e wq ⟨rfl,hwq⟩;obtain rfl:=hwq.symm;go_wp2_with fail;refine (HFo.out _).mono ?_;rintro e wq ⟨rfl,hwq⟩;obtain rfl:=hwq.symm;obtain ⟨W,hW⟩:∃ W,w.alloc q09=W:=⟨_,rfl⟩;have hX:=heap_alloc_new w q09;rw [hW] at hX;have HX:=hQz hX;have hb:=q0a w q09;rw [hW] at hb;have HB:=hQz hb;obtain ⟨kc0,kc1,kc2,kc3,kf0,kf1,kf2,kf3⟩:=q02 hX;unfold q09 at hW;(try rw [hW])
  clear hX hb;go_wp2_with fail;(try simp only [Exit.inBlock,Exit.then])
  generalize hz:((((W).setCell ⟨w.heap.size,0,none⟩ (.int .i64 0)).setCell ⟨w.heap.size,1,none⟩ (.int .i64 0)).setCell ⟨w.heap.size,2,none⟩ (.int .i64 0)).setCell ⟨w.heap.size,3,none⟩ (.string ⟨#[]⟩)=wz;obtain ⟨z1,z2,z3,z4⟩:=q0g _ _ _ _ _ _ _ _ _ _ _ HX.out wz hz.symm;obtain ⟨hd0,hd1,hd2,hd3,_⟩:=q02 z1;refine bodyPost_ret (v:= .tuple #[.agg #[.int .i64 0,.int .i64 0,.int .i64 0,.string ⟨#[]⟩],.int .i64 42]) (by simp [results,Tryz.results16,go_sem,hd0,hd1,hd2,hd3]) rfl ?_;exact ⟨.inr ⟨by simp,rfl,rfl⟩,HB.out.trans (z4 _ (Nat.le_refl _))⟩
end Go.Proofs.YtbpopnafcpfifaaGreatDoor
