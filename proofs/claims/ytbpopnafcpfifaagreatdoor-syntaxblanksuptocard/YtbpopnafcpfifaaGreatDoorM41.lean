import Derived.Test.YtbpopnafcpfifaaGreatDoorM34
import Derived.Test.YtbpopnafcpfifaaGreatDoorM28
import Derived.Test.YtbpopnafcpfifaaGreatDoorM35
import Derived.Test.YtbpopnafcpfifaaGreatDoorM27
import Derived.Deep.Cut
import Derived.Deep.CutRange
import Derived.BigQuiet
set_option linter.unusedVariables false
set_option linter.unusedSimpArgs false
namespace Go.Proofs.YtbpopnafcpfifaaGreatDoor
open Go.RowKit Go.Shelf
theorem pl_paren {l:List UInt8} {p:Nat} {c:UInt8} (hp:p<l.length) (hc:c=40∨c=41) (he:(plT l p).err=0) (ht:(plT l p).text=[c]):(plT l p).kind=10∧(plT l p).text=mkW l p:=by
 have hnl:∀ q,q0e l q≠[c]:=fun q e=>by
  unfold q0e at e
  split at e
  · next h=>
    have h0:(cut l q (bhP inB l q)).getD 0 0=c:=by rw [e];rfl
    have hgt:=bhP_gt (P:=inB) h.1 (by unfold inB;rw [h.2];rfl);unfold cut at h0
    have h1:((l.drop q).take (bhP inB l q-q)).getD 0 0=l.getD q 0:=by
     have:0<bhP inB l q-q:=by omega
     simp [List.getD,List.getElem?_take,this]
    rw [h1] at h0;rw [h0] at h;rcases hc with rfl|rfl
    · exact absurd h.2 (by decide)
    · exact absurd h.2 (by decide)
  · cases e
 unfold plT at he ht ⊢
 split at ht
 · exact absurd ht (hnl p)
 · next h1=>
   rw [if_neg h1] at he ⊢
   split at ht
   · next h2=>
     rw [if_pos h2] at he;unfold varT at he ht
     split at ht
     · exact absurd ht (hnl _)
     · next h3=>rw [if_neg h3] at he;cases he
   · next h2=>
     rw [if_neg h2] at he ⊢
     split at ht
     · exact absurd ht (hnl _)
     · next h3=>
       rw [if_neg h3] at he ⊢
       split at ht
       · next h4=>
         rw [if_pos h4] at he;unfold q1S at he ht
         split at ht
         · next h5=>
           have ht:cut l p (bhP nuB l p)=[c]:=ht;rw [ht] at h5;rcases hc with rfl|rfl
           · exact absurd h5 (by decide)
           · exact absurd h5 (by decide)
         · cases ht
       · next h4=>
         rw [if_neg h4] at he ⊢;unfold q1F at he ht ⊢
         split
         · next h5=>rw [if_pos h5] at ht;cases ht
         · exact ⟨rfl,rfl⟩
theorem pl_open {l:List UInt8} {p:Nat} {op:List Nat} (hp:p<l.length) (he:(plT l p).err=0):((plT l p).text=[40]→q15 (plT l p) op=incL op)∧((plT l p).text=[41]→q15 (plT l p) op=decO op)∧((plT l p).text≠[40]→(plT l p).text≠[41]→q15 (plT l p) op=op):=by
 refine ⟨fun h=> ?_,fun h=> ?_,fun h1 h2=> ?_⟩
 · have hk:=(pl_paren hp (.inl rfl) he h).1;unfold q15;rw [if_neg (by omega),if_neg (by omega),if_pos ⟨hk,h⟩]
 · have hk:=(pl_paren hp (.inr rfl) he h).1;unfold q15;rw [if_neg (by omega),if_neg (by omega),if_neg (fun g=>by rw [h] at g;exact absurd g.2 (by decide)),if_pos ⟨hk,h⟩]
 · have h7:(plT l p).kind≠7∧(plT l p).kind≠9:=by
    unfold plT
    repeat' split
    · unfold nameT;cases ownB (q0e l p) <;> simp
    · unfold varT;split <;> simp
    · unfold q2u;simp
    · unfold q1S;split <;> simp
    · unfold q1F;split <;> simp
   unfold q15;rw [if_neg h7.1,if_neg h7.2,if_neg (fun g=>h1 g.2),if_neg (fun g=>h2 g.2)]
theorem w_kind00 (w:World):Calls Tryz.prog 15 #[.bool false,.bool false] w fun e w'=>e= .returned (.int .i64 8)∧w'=w:=by
 go_enter Tryz.func15,Tryz.ntmps15;go_wp2_with fail;go_ret;exact ⟨rfl,rfl⟩
theorem w_kind01 (w:World):Calls Tryz.prog 15 #[.bool false,.bool true] w fun e w'=>e= .returned (.int .i64 9)∧w'=w:=by
 go_enter Tryz.func15,Tryz.ntmps15;go_wp2_with fail;go_ret;exact ⟨rfl,rfl⟩
theorem w_kind10 (w:World):Calls Tryz.prog 15 #[.bool true,.bool false] w fun e w'=>e= .returned (.int .i64 7)∧w'=w:=by
 go_enter Tryz.func15,Tryz.ntmps15;go_wp2_with fail;go_ret;exact ⟨rfl,rfl⟩
theorem w_kind11 (w:World):Calls Tryz.prog 15 #[.bool true,.bool true] w fun e w'=>e= .returned (.int .i64 6)∧w'=w:=by
 go_enter Tryz.func15,Tryz.ntmps15;go_wp2_with fail;go_ret;exact ⟨rfl,rfl⟩
structure RsS (w:World) (l:List UInt8) (W:World) (vt vo:Value) (n q:Nat) (pre:List Tok) (op:List Nat):Prop where
 len:pre.length=n
 own:W.ownsRow w.heap.size 39 4 vt n (flT pre)
 opn:W.ownsRow w.heap.size 3 1 vo op.length (opV op)
 below:Below w.heap.size w W
 rest:scW l=pre++scF l (l.length+1) q op
 ok:∀ t∈pre,t.err=0
 few:n≤q
 obd:∀ x∈op,x≤q
 opl:op.length≤q
theorem q1s {B:Nat} {W w5:World} {o:Obj} {v vt:Value} {e e2:TypeId} {z z2 n m:Nat} {xs ys:List Value} (hne:e2≠e) (h:W.ownsRow B e2 z2 v m ys) (ho:W.ownsRow B e z vt n xs) (hg:(W.alloc o).grownBy w5 vt.ownBlock):w5.ownsRow B e2 z2 v m ys:=by
 refine ⟨h.1,?_⟩;rcases h.2 with h1|⟨g,cap,cur,rfl,e2,e3,rest⟩
 · exact .inl h1
 · have hgl:=(Array.getElem?_eq_some_iff.1 e3).1;exact .inr ⟨g,cap,cur,rfl,e2,(hg.block g (by simp;omega) (fun e=>q19 ho e3 hne e.symm)).trans ((Below.heap_alloc _ _ _ hgl).trans e3),rest⟩
theorem box_grown {X:Nat} {W w5:World} {o ob:Obj} {vt:Value} (hX:W.heap[X]? =some ob) (hlt:∀ g,vt.ownBlock=some g→g<X) (hg:(W.alloc o).grownBy w5 vt.ownBlock):w5.heap[X]? =some ob:=
 (hg.block X (by have:=(Array.getElem?_eq_some_iff.1 hX).1;simp;omega) (fun e=>absurd (hlt _ e.symm) (Nat.lt_irrefl _))).trans ((Below.heap_alloc _ _ _ (Array.getElem?_eq_some_iff.1 hX).1).trans hX)
set_option maxRecDepth 100000 in
set_option maxHeartbeats 12800000 in
theorem w_rScan16 (s:ByteArray) (w:World) (ss:s.size≤16777216):
 Calls Tryz.prog 8 #[.string s] w fun e w'=>ScR s.data.toList w w' e:=by
 obtain ⟨i0,hi0,hz0,hz1,hz2⟩:=info_parts Tryz.infoTok;obtain ⟨i3,hi3,hy0,hy1,hy2⟩:=info_parts Tryz.infoInt;have HI0:=hQz (fun u=>w_ridle s 0 u (Nat.zero_le _) (by omega));have HId:Hid (∀ q u,q≤s.size→Calls Tryz.prog 13 #[.string s,.int .i64 (q:Int)] u fun e w'=>e= .returned (.int .i64 ((idW s.data.toList q:Nat):Int))∧w'=u):=fun q u hq=>w_ridle s q u hq (by omega);have HPi:Hid (∀ (q:Nat) (u:World),q<s.size→Calls Tryz.prog 14 #[.string s,.int .i64 (q:Int)] u fun e w'=>RpR (rpc s.data.toList (s.data.toList.length+1) (q+1) []) u w' e):=fun q u hq=>w_rpiece s q u hq ss;have HPl:Hid (∀ (q:Nat) (u:World),q<s.size→Calls Tryz.prog 16 #[.string s,.int .i64 (q:Int)] u fun e w'=>PlR (plT s.data.toList q) q u w' e):=fun q u hq=>w_rplain s q u hq (by omega);obtain ⟨l,hl⟩:∃ l,l=s.data.toList:=⟨_,rfl⟩;have HL:Hid (l.length=s.size):=by show _=_;rw [hl];exact q08 s
 have HG:Hid (∀ q (h:q<s.size),l.getD q 0=s[q]):=fun q h=>by rw [hl];exact q0f h
 rw [← hl] at HI0 HId HPi HPl ⊢;clear hl;have hq0:=q0Y (l:=l) (p:=0) (Nat.zero_le _);rw [HL.out] at hq0;have HSW:Hid (scW l=[]++scF l (l.length+1) (idW l 0) []):=rfl;generalize idW l 0=q0 at *;have HS0:Hid (RsS w l w (.slice none 0 0) (.slice none 0 0) 0 q0 [] []):=⟨rfl,World.ownsRow_nil _ _ _ _,World.ownsRow_nil _ _ _ _,Below.refl _ _,HSW.out,(fun t ht=>by cases ht),Nat.zero_le _,(fun x hx=>by cases hx),Nat.zero_le _⟩;go_enter Tryz.func8,Tryz.ntmps8;go_wp2_with fail;refine (HI0.out _).mono ?_;rintro e wq ⟨rfl,hwq⟩;obtain rfl:=hwq.symm;clear HI0;go_wp2_with fail
 go_loopw [5,6,7] (fun vt vo va wr=>∃ (q n:Nat) (so:Option Addr) (sc:Nat) (vo':Value) (pre:List Tok) (op:List Nat),q≤s.size∧va= .int .i64 (q:Int)∧vt= .slice so n sc∧vo=vo'∧Hid (RsS w l wr (.slice so n sc) vo' n q pre op)) (fun _ _ a _=>s.size-(intOf a).toNat)
 case atStart=>exact ⟨q0,0,none,0,.slice none 0 0,[],[],hq0.2,rfl,rfl,rfl,HS0⟩
 case round=>
  clear HS0 HSW hq0;obtain ⟨q,n,so,sc,vo,pre,op,hq,rfl,rfl,rfl,HS⟩:=hrel;obtain ⟨oo,oc,rfl⟩:=own_shapeT HS.out.opn;by_cases hlt:q<s.size
  · have hi1:(q:Int)<(s.size:Int):=by omega
    have hi0':(0:Int)≤(q:Int):=by omega
    have hql:q<l.length:=by rw [HL.out];exact hlt
    have hgq:=HG.out q hlt;have hup:=q2y (op:=op) hql;have hst:=sc_step (op:=op) hql;have hbd:=sc_bad (f:=l.length) (op:=op) hql;have hob:=open_bd (t:=tokW l op q) HS.out.obd HS.out.opl;have hfew:=HS.out.few;have hopl:=HS.out.opl;have hlen:=HS.out.len;have HOK:=hQz HS.out.ok;have HLN:=hQz hlen;have HOBD:=hQz HS.out.obd;clear hlen
    have hcls:∀ k,op.length=k+1→∃ g cap,oo=some ⟨g,0,none⟩∧oc=cap∧k+1≤cap∧w.heap.size≤g∧wr.cell? ⟨g,k,none⟩=some (.int .i64 ((op.getD k 0:Nat):Int)):=fun k hk=>by
     obtain ⟨g,cap,h1,h2,h3,_,h5,_⟩:=q2e HS.out.opn hk;rw [hk] at h1;simp only [Value.slice.injEq] at h1;exact ⟨g,cap,h1.1,h1.2.2,h3,h2,h5⟩
    by_cases h34:s[q].toNat=34
    · skip
      have hT:tokW l op q=q2b l q 6 7:=by
       rw [← piece_eq 6 7 hql];unfold tokW;rw [hgq];rw [if_neg (by unfold leB;rw [h34];decide),if_neg (by omega),if_neg (by omega),if_neg (by unfold dgB;rw [h34];decide),if_pos h34]
      rw [hT] at hup hst hbd hob;unfold q2b at hup hst hbd hob;have HPq:=hQz (fun u=>HPi.out q u hlt);clear hT;generalize rpc l (l.length+1) (q+1) []=r at *;obtain ⟨A,fi,wh,er⟩:=r;unfold RpR at HPq;dsimp only at HPq hup hst hbd hob;have k34:((s[q].toNat:Nat):Int)=34:=by omega
      clear hcls;by_cases he:er=0
      · subst he;rw [if_pos rfl] at hup hst hob
        cases wh with
        | true=>
         rw [if_pos rfl] at hup hst hob;have hu:=hup rfl;dsimp only at hu;have hfi:=hu.2.1;have hfl:=hu.2.2;rw [HL.out] at hfl;have HIf:=hQz (fun u=>HId.out fi u hfl);have hif:=q0Y (l:=l) (p:=fi) (by rw [HL.out];exact hfl);rw [HL.out] at hif;have HREST:=hQz (HS.out.rest.trans (by rw [hst rfl]));dsimp only at HREST;have HOB:=hQz hob;clear hup hst hbd hu hob;generalize idW l fi=q2 at *;have HOPN:Hid (q15 ⟨6,q,fi,txt A,0⟩ op=op):=rfl;rw [HOPN.out] at HREST HOB;clear HOPN;obtain ⟨tb,htb⟩:∃ tb:ByteArray,(⟨(txt A).toArray⟩:ByteArray)=tb:=⟨_,rfl⟩;rw [htb] at HPq;have HTB:=hQz htb;clear htb;go_wp2_with fail;refine (HPq.out _).mono ?_;rintro e w1 ⟨rfl,hb1⟩;have hro:=q0K hb1 HS.out.own;have hop:=q0K hb1 HS.out.opn;have HBW:=hQz (HS.out.below.trans (hb1.mono HS.out.below.size));have hszW:=HBW.out.size;clear hb1 HPq;go_wp2_with fail;refine (w_kind11 _).mono ?_;rintro e wq ⟨rfl,hwq⟩;obtain rfl:=hwq.symm;go_wp2_with (at_builtin;go_loud (refine wpList_append_own _ rfl _ _ 35 rfl w.heap.size 39 i0 (.agg #[.int .i64 0,.int .i64 0,.int .i64 0,.string ⟨#[]⟩]) 4 40 Tryz.underlying35 hi0 hz0 hz1 hz2 rfl (by decide) _ _ _ rfl (hro.alloc _) ⟨w1.heap.size,0,none⟩ 1 1 [.int .i64 6,.int .i64 (q:Int),.int .i64 (fi:Int),.string tb] rfl rfl (new4 (heap_alloc_new w1 _)) (by intro u hu;simp at hu;rcases hu with rfl|rfl|rfl|rfl <;> rfl) (by unfold maxLen;omega) (by omega) (by simp;omega) ?_));intro v' w5 hown' hgrow _;obtain ⟨g',cap',rfl⟩:=ownsRow_succ hown';have hop5:=q1s (by decide) hop hro hgrow;have hB5:Below w.heap.size w w5:=(HBW.out.alloc hszW _).grown hgrow (by simp;omega) (fun r e=>q16 hro r e);have HO5:=hQz hown';have HB5:=hQz hB5;clear hown' hgrow hro hB5;have HOP5:=hQz hop5;clear hop5 hop HS;go_wp2_with fail;refine (HIf.out _).mono ?_;rintro e wq ⟨rfl,hwq⟩;obtain rfl:=hwq.symm;go_wp2_with fail;go_roundw
         case rel=>
          refine ⟨q2,n+1,some ⟨g',0,none⟩,cap',_,pre++[⟨6,q,fi,txt A,0⟩],op,hif.2,by first|rfl|go_num,by first|rfl|go_num,by first|rfl|go_num,⟨by rw [List.length_append,HLN.out];rfl,?_,HOP5.out,HB5.out,by rw [HREST.out,List.append_assoc];rfl,?_,by omega,fun x hx=>by have:=HOB.out.1 x hx;omega,by have:=HOB.out.2;omega⟩⟩
          · rw [q20];dsimp only;(try rw [HTB.out])
            exact HO5.out
          · intro t ht;rcases List.mem_append.1 ht with h|h
            · exact HOK.out t h
            · rw [List.mem_singleton.1 h]
         case measure=>simp [intOf];omega
        | false=>
         rw [if_neg (by decide)] at hup hst hob;have hu:=hup rfl;dsimp only at hu;have hfi:=hu.2.1;have hfl:=hu.2.2;rw [HL.out] at hfl;have HIf:=hQz (fun u=>HId.out fi u hfl);have hif:=q0Y (l:=l) (p:=fi) (by rw [HL.out];exact hfl);rw [HL.out] at hif;have HREST:=hQz (HS.out.rest.trans (by rw [hst rfl]));dsimp only at HREST;have HOB:=hQz hob;clear hup hst hbd hu hob;generalize idW l fi=q2 at *;have HOPN:Hid (q15 ⟨7,q,fi,txt A,0⟩ op=op++[0]):=rfl;rw [HOPN.out] at HREST HOB;clear HOPN;obtain ⟨tb,htb⟩:∃ tb:ByteArray,(⟨(txt A).toArray⟩:ByteArray)=tb:=⟨_,rfl⟩;rw [htb] at HPq;have HTB:=hQz htb;clear htb;go_wp2_with fail;refine (HPq.out _).mono ?_;rintro e w1 ⟨rfl,hb1⟩;have hro:=q0K hb1 HS.out.own;have hop:=q0K hb1 HS.out.opn;have HBW:=hQz (HS.out.below.trans (hb1.mono HS.out.below.size));have hszW:=HBW.out.size;clear hb1 HPq;go_wp2_with fail;refine (w_kind10 _).mono ?_;rintro e wq ⟨rfl,hwq⟩;obtain rfl:=hwq.symm;go_wp2_with (at_builtin;go_loud (refine wpList_append_own _ rfl _ _ 35 rfl w.heap.size 39 i0 (.agg #[.int .i64 0,.int .i64 0,.int .i64 0,.string ⟨#[]⟩]) 4 40 Tryz.underlying35 hi0 hz0 hz1 hz2 rfl (by decide) _ _ _ rfl (hro.alloc _) ⟨w1.heap.size,0,none⟩ 1 1 [.int .i64 7,.int .i64 (q:Int),.int .i64 (fi:Int),.string tb] rfl rfl (new4 (heap_alloc_new w1 _)) (by intro u hu;simp at hu;rcases hu with rfl|rfl|rfl|rfl <;> rfl) (by unfold maxLen;omega) (by omega) (by simp;omega) ?_));intro v' w5 hown' hgrow _;obtain ⟨g',cap',rfl⟩:=ownsRow_succ hown';have hop5:=q1s (by decide) hop hro hgrow;have hB5:Below w.heap.size w w5:=(HBW.out.alloc hszW _).grown hgrow (by simp;omega) (fun r e=>q16 hro r e);have HO5:=hQz hown';have HB5:=hQz hB5;clear hown' hgrow hro hB5;have hsz5:=HB5.out.size;have HOPx:=hQz hop5;have HTK5:=HO5;clear hop HS;go_wp2_with (at_builtin;go_loud (refine wpList_append_own _ rfl _ _ 52 rfl w.heap.size 3 i3 (.int .i64 0) 1 8 Tryz.underlying52 hi3 hy0 hy1 hy2 rfl (by decide) _ _ _ rfl (hop5.alloc _) ⟨w5.heap.size,0,none⟩ 1 1 [.int .i64 0] rfl rfl (World.news_of_block (cs:= #[.int .i64 0]) (t:=3) (fr:=(0,0)) (heap_alloc_new w5 _)) (by intro u hu;simp at hu;subst hu;rfl) (by unfold maxLen;omega) (by omega) (by simp;omega) ?_));intro v6 w6 hown6 hgrow6 _;obtain ⟨g6,cap6,rfl⟩:=ownsRow_succ hown6;have hT6:=q1s (by decide) HO5.out hop5 hgrow6;have HB6:Hid (Below w.heap.size w w6):=(HB5.out.alloc hsz5 _).grown hgrow6 (by simp;omega) (fun r e=>q16 hop5 r e)
         have HOP6:Hid (w6.ownsRow w.heap.size 3 1 (.slice (some ⟨g6,0,none⟩) (op.length+1) cap6) (op++[0]).length (opV (op++[0]))):=by
          have h6:=hown6;rw [List.length_append];unfold opV at h6 ⊢;rw [List.map_append];exact h6
         clear HO5;have HO5:=hQz hT6;clear hown6 hgrow6 hT6 hop5 HOPx HTK5;go_wp2_with fail;refine (HIf.out _).mono ?_;rintro e wq ⟨rfl,hwq⟩;obtain rfl:=hwq.symm;go_wp2_with fail;go_roundw
         case rel=>
          refine ⟨q2,n+1,some ⟨g',0,none⟩,cap',_,pre++[⟨7,q,fi,txt A,0⟩],(op++[0]),hif.2,by first|rfl|go_num,by first|rfl|go_num,by first|rfl|go_num,⟨by rw [List.length_append,HLN.out];rfl,?_,HOP6.out,HB6.out,by rw [HREST.out,List.append_assoc];rfl,?_,by omega,fun x hx=>by have:=HOB.out.1 x hx;omega,by have:=HOB.out.2;omega⟩⟩
          · rw [q20];dsimp only;(try rw [HTB.out])
            exact HO5.out
          · intro t ht;rcases List.mem_append.1 ht with h|h
            · exact HOK.out t h
            · rw [List.mem_singleton.1 h]
         case measure=>simp [intOf];omega
      · have heb:(((er:Nat):Int)==0)=false:=by rw [bqZ];omega
        have hne:¬ ((er:Nat):Int)=0:=by omega
        rw [if_neg he] at hbd;have HREST:=hQz (HS.out.rest.trans (by rw [hbd he]));clear hup hst hbd hob;generalize (⟨(txt A).toArray⟩:ByteArray)=tb at *;go_wp2_with fail;refine (HPq.out _).mono ?_;rintro e w1 ⟨rfl,hb1⟩;have HBW:=hQz (HS.out.below.trans (hb1.mono HS.out.below.size));clear hb1 HPq HS;go_wp2_with fail;(try simp only [Exit.inBlock,Exit.then])
        refine bodyPost_ret (v:= .tuple #[.slice none 0 0,.int .i64 (er:Int),.int .i64 (fi:Int)]) (by simp [results,Tryz.results8,go_sem]) rfl ?_;exact ⟨.inr ⟨pre,_,HREST.out,he,rfl⟩,HBW.out⟩
    have n34:¬ ((s[q].toNat:Nat):Int)=34:=by omega
    by_cases hcc:s[q].toNat=41∧clsB op=true
    · obtain ⟨h41,hcs⟩:=hcc
      have hT:tokW l op q=q2b l q 9 8:=by
       rw [← piece_eq 9 8 hql];unfold tokW;rw [hgq];rw [if_neg (by unfold leB;rw [h41];decide),if_neg (by omega),if_neg (by omega),if_neg (by unfold dgB;rw [h41];decide),if_neg (by omega),if_pos ⟨h41,hcs⟩]
      rw [hT] at hup hst hbd hob;unfold q2b at hup hst hbd hob;have HPq:=hQz (fun u=>HPi.out q u hlt);clear hT;generalize rpc l (l.length+1) (q+1) []=r at *;obtain ⟨A,fi,wh,er⟩:=r;unfold RpR at HPq;dsimp only at HPq hup hst hbd hob;have k41:((s[q].toNat:Nat):Int)=41:=by omega
      obtain ⟨k,hk⟩:∃ k,op.length=k+1:=⟨op.length-1,by have:=List.length_pos_iff.2 (cls_ne hcs);omega⟩;obtain ⟨g,_,rfl,rfl,hcap,hgb,hcell⟩:=hcls k hk
      have hz:op.getD k 0=0:=by
       have:=hcs;unfold clsB at this;rw [last_getD hk] at this;exact Option.some.inj (of_decide_eq_true this)
      rw [hz] at hcell;have hopr:=HS.out.opn;rw [hk] at hopr ⊢;have j0:(0:Int)<(k:Int)+1:=by omega
      have j1:(0:Int)≤(k:Int):=by omega
      have j2:(k:Int)<(k:Int)+1:=by omega
      have j3:(k:Int)≤(oc:Int):=by omega
      have j4:k≤oc:=by omega
      have hkb:k≤16777216:=by omega
      have HK:=hQz hk;clear hk hz hcls;by_cases he:er=0
      · subst he;rw [if_pos rfl] at hup hst hob
        cases wh with
        | true=>
         rw [if_pos rfl] at hup hst hob;have hu:=hup rfl;dsimp only at hu;have hfi:=hu.2.1;have hfl:=hu.2.2;rw [HL.out] at hfl;have HIf:=hQz (fun u=>HId.out fi u hfl);have hif:=q0Y (l:=l) (p:=fi) (by rw [HL.out];exact hfl);rw [HL.out] at hif;have HREST:=hQz (HS.out.rest.trans (by rw [hst rfl]));dsimp only at HREST;have HOB:=hQz hob;clear hup hst hbd hu hob;generalize idW l fi=q2 at *;have HOPN:Hid (q15 ⟨9,q,fi,txt A,0⟩ op=op.dropLast):=rfl;rw [HOPN.out] at HREST HOB;clear HOPN;obtain ⟨tb,htb⟩:∃ tb:ByteArray,(⟨(txt A).toArray⟩:ByteArray)=tb:=⟨_,rfl⟩;rw [htb] at HPq;have HTB:=hQz htb;clear htb;go_wp2_with fail;refine (HPq.out _).mono ?_;rintro e w1 ⟨rfl,hb1⟩;have hro:=q0K hb1 HS.out.own;have hop:=q0K hb1 HS.out.opn;have HBW:=hQz (HS.out.below.trans (hb1.mono HS.out.below.size));have hszW:=HBW.out.size;clear hb1 HPq;go_wp2_with fail;refine (w_kind01 _).mono ?_;rintro e wq ⟨rfl,hwq⟩;obtain rfl:=hwq.symm;go_wp2_with (at_builtin;go_loud (refine wpList_append_own _ rfl _ _ 35 rfl w.heap.size 39 i0 (.agg #[.int .i64 0,.int .i64 0,.int .i64 0,.string ⟨#[]⟩]) 4 40 Tryz.underlying35 hi0 hz0 hz1 hz2 rfl (by decide) _ _ _ rfl (hro.alloc _) ⟨w1.heap.size,0,none⟩ 1 1 [.int .i64 9,.int .i64 (q:Int),.int .i64 (fi:Int),.string tb] rfl rfl (new4 (heap_alloc_new w1 _)) (by intro u hu;simp at hu;rcases hu with rfl|rfl|rfl|rfl <;> rfl) (by unfold maxLen;omega) (by omega) (by simp;omega) ?_));intro v' w5 hown' hgrow _;obtain ⟨g',cap',rfl⟩:=ownsRow_succ hown';have hop5:=q1s (by decide) hop hro hgrow;have hB5:Below w.heap.size w w5:=(HBW.out.alloc hszW _).grown hgrow (by simp;omega) (fun r e=>q16 hro r e);have HO5:=hQz hown';have HB5:=hQz hB5;clear hown' hgrow hro hB5
         have hop6:w5.ownsRow w.heap.size 3 1 (.slice (some ⟨g,0,none⟩) k oc) op.dropLast.length (opV op.dropLast):=by
          have h5:=hop5;rw [show op.length=k+1 from HK.out] at h5;exact op_less (op:=op) (by rw [HK.out];exact h5) HK.out
         have HOP5:=hQz hop6;clear hop5 hop6 hop HS hcell hopr;go_wp2_with fail;refine (HIf.out _).mono ?_;rintro e wq ⟨rfl,hwq⟩;obtain rfl:=hwq.symm;go_wp2_with fail;go_roundw
         case rel=>
          refine ⟨q2,n+1,some ⟨g',0,none⟩,cap',_,pre++[⟨9,q,fi,txt A,0⟩],op.dropLast,hif.2,by first|rfl|go_num,by first|rfl|go_num,by first|rfl|go_num,⟨by rw [List.length_append,HLN.out];rfl,?_,HOP5.out,HB5.out,by rw [HREST.out,List.append_assoc];rfl,?_,by omega,fun x hx=>by have:=HOB.out.1 x hx;omega,by have:=HOB.out.2;omega⟩⟩
          · rw [q20];dsimp only;(try rw [HTB.out])
            exact HO5.out
          · intro t ht;rcases List.mem_append.1 ht with h|h
            · exact HOK.out t h
            · rw [List.mem_singleton.1 h]
         case measure=>simp [intOf];omega
        | false=>
         rw [if_neg (by decide)] at hup hst hob;have hu:=hup rfl;dsimp only at hu;have hfi:=hu.2.1;have hfl:=hu.2.2;rw [HL.out] at hfl;have HIf:=hQz (fun u=>HId.out fi u hfl);have hif:=q0Y (l:=l) (p:=fi) (by rw [HL.out];exact hfl);rw [HL.out] at hif;have HREST:=hQz (HS.out.rest.trans (by rw [hst rfl]));dsimp only at HREST;have HOB:=hQz hob;clear hup hst hbd hu hob;generalize idW l fi=q2 at *;have HOPN:Hid (q15 ⟨8,q,fi,txt A,0⟩ op=op):=rfl;rw [HOPN.out] at HREST HOB;clear HOPN;obtain ⟨tb,htb⟩:∃ tb:ByteArray,(⟨(txt A).toArray⟩:ByteArray)=tb:=⟨_,rfl⟩;rw [htb] at HPq;have HTB:=hQz htb;clear htb;go_wp2_with fail;refine (HPq.out _).mono ?_;rintro e w1 ⟨rfl,hb1⟩;have hro:=q0K hb1 HS.out.own;have hop:=q0K hb1 HS.out.opn;have HBW:=hQz (HS.out.below.trans (hb1.mono HS.out.below.size));have hszW:=HBW.out.size;clear hb1 HPq;go_wp2_with fail;refine (w_kind00 _).mono ?_;rintro e wq ⟨rfl,hwq⟩;obtain rfl:=hwq.symm;go_wp2_with (at_builtin;go_loud (refine wpList_append_own _ rfl _ _ 35 rfl w.heap.size 39 i0 (.agg #[.int .i64 0,.int .i64 0,.int .i64 0,.string ⟨#[]⟩]) 4 40 Tryz.underlying35 hi0 hz0 hz1 hz2 rfl (by decide) _ _ _ rfl (hro.alloc _) ⟨w1.heap.size,0,none⟩ 1 1 [.int .i64 8,.int .i64 (q:Int),.int .i64 (fi:Int),.string tb] rfl rfl (new4 (heap_alloc_new w1 _)) (by intro u hu;simp at hu;rcases hu with rfl|rfl|rfl|rfl <;> rfl) (by unfold maxLen;omega) (by omega) (by simp;omega) ?_));intro v' w5 hown' hgrow _;obtain ⟨g',cap',rfl⟩:=ownsRow_succ hown';have hop5:=q1s (by decide) hop hro hgrow;have hB5:Below w.heap.size w w5:=(HBW.out.alloc hszW _).grown hgrow (by simp;omega) (fun r e=>q16 hro r e);have HO5:=hQz hown';have HB5:=hQz hB5;clear hown' hgrow hro hB5
         have HOP5:Hid (w5.ownsRow w.heap.size 3 1 (.slice (some ⟨g,0,none⟩) (k+1) oc) op.length (opV op)):=by
          have h5:=hop5;rw [HK.out] at h5 ⊢;exact h5
         clear hop5 hop HS hcell hopr;go_wp2_with fail;refine (HIf.out _).mono ?_;rintro e wq ⟨rfl,hwq⟩;obtain rfl:=hwq.symm;go_wp2_with fail;go_roundw
         case rel=>
          refine ⟨q2,n+1,some ⟨g',0,none⟩,cap',(.slice (some ⟨g,0,none⟩) (k+1) oc),pre++[⟨8,q,fi,txt A,0⟩],op,hif.2,by first|rfl|go_num,by first|rfl|go_num,by first|rfl|go_num,⟨by rw [List.length_append,HLN.out];rfl,?_,HOP5.out,HB5.out,by rw [HREST.out,List.append_assoc];rfl,?_,by omega,fun x hx=>by have:=HOB.out.1 x hx;omega,by have:=HOB.out.2;omega⟩⟩
          · rw [q20];dsimp only;(try rw [HTB.out])
            exact HO5.out
          · intro t ht;rcases List.mem_append.1 ht with h|h
            · exact HOK.out t h
            · rw [List.mem_singleton.1 h]
         case measure=>simp [intOf];omega
      · have heb:(((er:Nat):Int)==0)=false:=by rw [bqZ];omega
        have hne:¬ ((er:Nat):Int)=0:=by omega
        rw [if_neg he] at hbd;have HREST:=hQz (HS.out.rest.trans (by rw [hbd he]));clear hup hst hbd hob;generalize (⟨(txt A).toArray⟩:ByteArray)=tb at *;go_wp2_with fail;refine (HPq.out _).mono ?_;rintro e w1 ⟨rfl,hb1⟩;have HBW:=hQz (HS.out.below.trans (hb1.mono HS.out.below.size));clear hb1 HPq HS;go_wp2_with fail;(try simp only [Exit.inBlock,Exit.then])
        refine bodyPost_ret (v:= .tuple #[.slice none 0 0,.int .i64 (er:Int),.int .i64 (fi:Int)]) (by simp [results,Tryz.results8,go_sem]) rfl ?_;exact ⟨.inr ⟨pre,_,HREST.out,he,rfl⟩,HBW.out⟩
    have hT:tokW l op q=plT l q:=plT_eq (by rw [hgq];exact h34) (by rw [hgq];exact hcc);rw [hT] at hup hst hbd hob;have hpo:=pl_open (op:=op) hql;have hpp:=pl_paren (c:=41) hql (.inr rfl);have HPq:=hQz (fun u=>HPl.out q u hlt);have hmh:=mkW_head (l:=l) (p:=q);clear hT;generalize plT l q=t at *;obtain ⟨kd,pa,fi,tx,er⟩:=t;unfold PlR tokV at HPq;dsimp only at HPq hup hst hbd hob hpo hpp
    have hc1:s[q].toNat=41→∀ k,op.length=k+1→op.getD k 0≠0:=fun h41 k hk e=>by
     refine hcc ⟨h41,?_⟩;unfold clsB;rw [last_getD hk,e];rfl
    have HC1:=hQz hc1
    have W1:(¬ ((s[q].toNat:Nat):Int)=41)∨(((s[q].toNat:Nat):Int)=41∧op=[])∨(((s[q].toNat:Nat):Int)=41∧∃ k,op.length=k+1∧op.getD k 0≠0):=by
     by_cases h41:s[q].toNat=41
     · right
       by_cases h0:op=[]
       · exact .inl ⟨by omega,h0⟩
       · have:=List.length_pos_iff.2 h0;exact .inr ⟨by omega,op.length-1,by omega,hc1 h41 _ (by omega)⟩
     · left;omega
    have H41:Hid (s[q].toNat=41∨¬ s[q].toNat=41):=by show _∨_;omega
    clear hc1 hcc;obtain ⟨m,hm⟩:∃ m,op.length=m:=⟨_,rfl⟩;rw [hm];have HM:=hQz hm;have hmq:m≤16777216:=by omega
    clear hm;go_upto_region 6 with fail
    go_cut [9] from 24 to 39 (fun c9 wx=>c9= .bool false∧wx=wr)
    case first=>
     rcases W1 with c1|⟨c1,h0⟩|⟨c1,k,hk,hnz⟩
     · go_wp2_with fail
       go_meet
       exact ⟨rfl,rfl⟩
     · obtain rfl:0=m:=by rw [← HM.out,h0];rfl
       go_wp2_with fail
       go_meet
       exact ⟨rfl,rfl⟩
     · obtain ⟨g,_,rfl,rfl,hcap,hgb,hcell⟩:=hcls k hk;have d1:(((op.getD k 0:Nat):Int)==0)=false:=by rw [bqZ];omega
       have d2:¬ ((op.getD k 0:Nat):Int)=0:=by omega
       have hkb:k≤16777216:=by omega
       have j0:(0:Int)<(k:Int)+1:=by omega
       have j1:(0:Int)≤(k:Int):=by omega
       have j2:(k:Int)<(k:Int)+1:=by omega
       obtain rfl:k+1=m:=hk.symm.trans HM.out;clear HS hk hnz HM;generalize op.getD k 0=yy at *;go_wp2_with fail
       go_meet
       exact ⟨rfl,rfl⟩
    case rest=>
     obtain ⟨rfl,rfl⟩:=hcut;clear W1 hcls;have HPP0:Hid (er=0→tx=[41]→kd=10∧tx=mkW l q):=hpp;have HUP:=hQz hup;have HST:=hQz hst;have HBD:=hQz hbd;have HOB:=hQz hob;have HPO0:=hQz hpo;clear hpp hup hst hbd hob hpo hmh;go_wp2_with fail;refine (HPq.out _).mono ?_;rintro e w1 ⟨⟨he,rfl⟩|⟨he,hpa,rfl⟩,hb1⟩
     · subst he;have hfi:=(HUP.out rfl).2.1;have hfl:=(HUP.out rfl).2.2;rw [HL.out] at hfl;have HIf:=hQz (fun u=>HId.out fi u hfl);have hif:=q0Y (l:=l) (p:=fi) (by rw [HL.out];exact hfl);rw [HL.out] at hif;have HREST:=hQz (HS.out.rest.trans (by rw [HST.out rfl]))
       try dsimp only at HREST
       have HPO:=hQz (HPO0.out rfl);have HPP:=hQz (HPP0.out rfl);generalize idW l fi=q2 at *;obtain ⟨tb,htb⟩:∃ tb:ByteArray,(⟨tx.toArray⟩:ByteArray)=tb:=⟨_,rfl⟩;rw [htb];have HTB:=hQz htb;have hro0:=q0K hb1 HS.out.own;have hop0:=q0K hb1 HS.out.opn;have HB1:=hQz (HS.out.below.trans (hb1.mono HS.out.below.size));have HRL:Hid (∀ g,(Value.slice so n sc).ownBlock=some g→g<w1.heap.size):=q0W hro0;have hbx:=q0a w1 (.cells #[.int .i64 (kd:Int),.int .i64 (pa:Int),.int .i64 (fi:Int),.string tb] 39);have hxb:=heap_alloc_new w1 (.cells #[.int .i64 (kd:Int),.int .i64 (pa:Int),.int .i64 (fi:Int),.string tb] 39);clear hb1 HPq htb HUP HST HBD HPO0 HPP0 HS;go_upto_region 20 with fail;obtain ⟨W2,hW2⟩:∃ W2,w1.alloc (.cells #[.int .i64 (kd:Int),.int .i64 (pa:Int),.int .i64 (fi:Int),.string tb] 39)=W2:=⟨_,rfl⟩;rw [hW2] at hbx hxb ⊢;have hro:=q0K hbx hro0;have hop:=q0K hbx hop0;have HBW:=hQz (HB1.out.trans (hbx.mono HB1.out.size));have hszW:=HBW.out.size;obtain ⟨xc0,xc1,xc2,xc3,xf0,xf1,xf2,xf3⟩:=q02 hxb;have HXB:=hQz hxb;clear hW2 hbx hxb hro0 hop0;by_cases hne0:op=[]
       · obtain rfl:0=m:=by rw [← HM.out,hne0];rfl
         subst hne0;have hop:W2.ownsRow w.heap.size 3 1 (.slice oo 0 oc) 0 (opV []):=hop;clear HM
         have HOPN:Hid (q15 ⟨kd,pa,fi,tx,0⟩ []=[]):=by
          show _=_;by_cases h40:tx=[40]
          · rw [HPO.out.1 h40];rfl
          · by_cases h41:tx=[41]
            · rw [HPO.out.2.1 h41];rfl
            · exact HPO.out.2.2 h40 h41
         rw [HOPN.out] at HREST HOB;clear HOPN HPO HPP;go_wp2_with (at_builtin;go_loud (refine wpList_append_own _ rfl _ _ 35 rfl w.heap.size 39 i0 (.agg #[.int .i64 0,.int .i64 0,.int .i64 0,.string ⟨#[]⟩]) 4 40 Tryz.underlying35 hi0 hz0 hz1 hz2 rfl (by decide) _ _ _ rfl (hro.alloc _) ⟨W2.heap.size,0,none⟩ 1 1 [.int .i64 (kd:Int),.int .i64 (pa:Int),.int .i64 (fi:Int),.string tb] rfl rfl (new4 (heap_alloc_new W2 _)) (by intro u hu;simp at hu;rcases hu with rfl|rfl|rfl|rfl <;> rfl) (by unfold maxLen;omega) (by omega) (by simp;omega) ?_));intro v' w5 hown' hgrow _;obtain ⟨g',cap',rfl⟩:=ownsRow_succ hown';have hop5:=q1s (by decide) hop hro hgrow;have hB5:Below w.heap.size w w5:=(HBW.out.alloc hszW _).grown hgrow (by simp;omega) (fun r e=>q16 hro r e);have hX5:=box_grown HXB.out HRL.out hgrow;obtain ⟨yc0,yc1,yc2,yc3,_⟩:=q02 hX5;have HO5:=hQz hown';have HB5:=hQz hB5;have HOP5:=hQz hop5;clear hown' hgrow hro hB5 hop5 hop hX5;go_wp2_with fail;refine (HIf.out _).mono ?_;rintro e wq ⟨rfl,hwq⟩;obtain rfl:=hwq.symm;go_wp2_with fail;go_roundw
         case rel=>
          refine ⟨q2,n+1,some ⟨g',0,none⟩,cap',_,pre++[⟨kd,pa,fi,tx,0⟩],[],hif.2,by first|rfl|go_num,by first|rfl|go_num,by first|rfl|go_num,⟨by rw [List.length_append,HLN.out];rfl,?_,(by first|exact HOP5.out|(rw [HK.out];exact HOP5.out)),HB5.out,by rw [HREST.out,List.append_assoc];rfl,?_,by omega,fun x hx=>by have:=HOB.out.1 x hx;omega,by have:=HOB.out.2;omega⟩⟩
          · rw [q20];dsimp only;(try rw [HTB.out])
            exact HO5.out
          · intro t ht;rcases List.mem_append.1 ht with h|h
            · exact HOK.out t h
            · rw [List.mem_singleton.1 h]
         case measure=>simp [intOf];omega
       · obtain ⟨k,hk⟩:∃ k,op.length=k+1:=⟨op.length-1,by have:=List.length_pos_iff.2 hne0;omega⟩;obtain ⟨g,cap0,h1,hgb,hcap,_,hcell,_⟩:=q2e hop hk;obtain rfl:k+1=m:=hk.symm.trans HM.out;rw [hk] at hop h1;simp only [Value.slice.injEq] at h1;obtain ⟨rfl,_,rfl⟩:=h1;have HK:=hQz hk;have hkb:k≤16777216:=by omega
         have j0:(0:Int)<(k:Int)+1:=by omega
         have j1:(0:Int)≤(k:Int):=by omega
         have j2:(k:Int)<(k:Int)+1:=by omega
         have hyb:op.getD k 0≤1099511627776:=by
          have hx:op.getD k 0∈op:=by
           have hk2:k<op.length:=by omega
           simp [List.getD,hk2]
          have:=HOBD.out _ hx;omega
         clear hk;by_cases h40:tx=[40]
         · skip
           have HOPN:=hQz (HPO.out.1 h40);rw [HOPN.out] at HREST HOB;obtain ⟨xx,hxx⟩:∃ xx,op.getD k 0+1=xx:=⟨_,rfl⟩;have HNEW:Hid (incL op=op.set k xx):=by show _=_;rw [incL_set op hne0,HK.out,show k+1-1=k by omega,hxx]
           rw [HNEW.out] at HREST HOB;have hxi:((xx:Nat):Int)=((op.getD k 0:Nat):Int)+1:=by omega
           obtain ⟨W3,hW3⟩:∃ W3,W2.setCell ⟨g,k,none⟩ (.int .i64 ((xx:Nat):Int))=W3:=⟨_,rfl⟩;have hgt:∀ cs f,W2.heap[g]? ≠some (.cells cs 39 f):=fun cs f e=>q19 hop e (by decide) (by rfl)
           have hro3:W3.ownsRow w.heap.size 39 4 (.slice so n sc) n (flT pre):=by
            rw [← hW3];refine own_setT hro (fun e=> ?_);rcases hro.2 with ⟨h1,_⟩|⟨g1,_,cur,h1,_,h3,_⟩
            · rw [h1] at e;cases e
            · rw [h1] at e;simp only [Value.ownBlock,Option.some.injEq] at e;exact hgt _ _ (by rw [← e];exact h3)
           have hop3:W3.ownsRow w.heap.size 3 1 (.slice (some ⟨g,0,none⟩) (k+1) oc) (op.set k xx).length (opV (op.set k xx)):=by
            rw [← hW3];obtain ⟨g9,cap9,h91,_,_,_,_,_,h9⟩:=q2e (op:=op) (by rw [HK.out];exact hop) HK.out;simp only [Value.slice.injEq] at h91;obtain ⟨h92,_,rfl⟩:=h91;have h92:g=g9:=by simpa using h92
            subst h92;rw [List.length_set];exact h9 xx
           have hXb3:W3.heap[w1.heap.size]? =some (.cells #[.int .i64 (kd:Int),.int .i64 (pa:Int),.int .i64 (fi:Int),.string tb] 39 (0,0)):=by
            have hne3:w1.heap.size≠g:=fun e=>by
             have h9:=HXB.out;rw [e] at h9;exact hgt _ _ h9
            rw [← hW3,Below.heap_setCell _ _ _ _ hne3];exact HXB.out
           have HBW3:Hid (Below w.heap.size w W3):=by rw [← hW3];exact HBW.out.setCell (p:=⟨g,k,none⟩) hgb _
           obtain ⟨xd0,xd1,xd2,xd3,_⟩:=q02 hXb3;rw [hxi] at hW3;have HW3:=hQz hW3
           have hfr:W2.frozen? ⟨g,k,none⟩=false:=by
            obtain ⟨g9,cap9,h91,_,_,_,_,h9,_⟩:=q2e (op:=op) (by rw [HK.out];exact hop) HK.out;simp only [Value.slice.injEq] at h91;have h92:g=g9:=by simpa using h91.1
            subst h92;exact h9
           have hszW3:=HBW3.out.size;clear hW3 hgt hxi hro hop HBW;have e40:((tb:ByteArray).toList==[40])=true:=by rw [← HTB.out];show (ByteArray.toList ⟨tx.toArray⟩==[40])=_;rw [Lib.toList_data,show (⟨tx.toArray⟩:ByteArray).data.toList=tx from rfl,h40];rfl
           have e41:((tb:ByteArray).toList==[41])=false:=by rw [← HTB.out];show (ByteArray.toList ⟨tx.toArray⟩==[41])=_;rw [Lib.toList_data,show (⟨tx.toArray⟩:ByteArray).data.toList=tx from rfl,h40];rfl
           generalize op.getD k 0=yy at *;go_upto_region 22 with fail;rw [HW3.out];have hro:=hro3;have hop:=hop3;have HBW:=HBW3;have hszW:=hszW3;clear hro3 hop3 HBW3 hszW3 xc0 xc1 xc2 xc3 xf0 xf1 xf2 xf3;have HX3:=hQz hXb3;clear hXb3;go_wp2_with (at_builtin;go_loud (refine wpList_append_own _ rfl _ _ 35 rfl w.heap.size 39 i0 (.agg #[.int .i64 0,.int .i64 0,.int .i64 0,.string ⟨#[]⟩]) 4 40 Tryz.underlying35 hi0 hz0 hz1 hz2 rfl (by decide) _ _ _ rfl (hro.alloc _) ⟨W3.heap.size,0,none⟩ 1 1 [.int .i64 (kd:Int),.int .i64 (pa:Int),.int .i64 (fi:Int),.string tb] rfl rfl (new4 (heap_alloc_new W3 _)) (by intro u hu;simp at hu;rcases hu with rfl|rfl|rfl|rfl <;> rfl) (by unfold maxLen;omega) (by omega) (by simp;omega) ?_));intro v' w5 hown' hgrow _;obtain ⟨g',cap',rfl⟩:=ownsRow_succ hown';have hop5:=q1s (by decide) hop hro hgrow;have hB5:Below w.heap.size w w5:=(HBW.out.alloc hszW _).grown hgrow (by simp;omega) (fun r e=>q16 hro r e);have hX5:=box_grown HX3.out HRL.out hgrow;obtain ⟨yc0,yc1,yc2,yc3,_⟩:=q02 hX5;have HO5:=hQz hown';have HB5:=hQz hB5;have HOP5:=hQz hop5;clear hown' hgrow hro hB5 hop5 hop hX5;go_wp2_with fail;refine (HIf.out _).mono ?_;rintro e wq ⟨rfl,hwq⟩;obtain rfl:=hwq.symm;go_wp2_with fail;go_roundw
           case rel=>
            refine ⟨q2,n+1,some ⟨g',0,none⟩,cap',_,pre++[⟨kd,pa,fi,tx,0⟩],(op.set k xx),hif.2,by first|rfl|go_num,by first|rfl|go_num,by first|rfl|go_num,⟨by rw [List.length_append,HLN.out];rfl,?_,(by first|exact HOP5.out|(rw [HK.out];exact HOP5.out)),HB5.out,by rw [HREST.out,List.append_assoc];rfl,?_,by omega,fun x hx=>by have:=HOB.out.1 x hx;omega,by have:=HOB.out.2;omega⟩⟩
            · rw [q20];dsimp only;(try rw [HTB.out])
              exact HO5.out
            · intro t ht;rcases List.mem_append.1 ht with h|h
              · exact HOK.out t h
              · rw [List.mem_singleton.1 h]
           case measure=>simp [intOf];omega
         by_cases h41:tx=[41]
         · skip
           have HOPN:=hQz (HPO.out.2.1 h41);rw [HOPN.out] at HREST HOB;have hnz:op.getD k 0≠0:=HC1.out (by have h1:=(HPP.out h41).2;rw [h41] at h1;have h2:=mkW_head h1.symm hql;rw [hgq] at h2;exact h2) k HK.out;obtain ⟨xx,hxx⟩:∃ xx,op.getD k 0-1=xx:=⟨_,rfl⟩;have HNEW:Hid (decO op=op.set k xx):=by show _=_;rw [decO_set op hne0,HK.out,show k+1-1=k by omega,hxx]
           rw [HNEW.out] at HREST HOB;have hxi:((xx:Nat):Int)=((op.getD k 0:Nat):Int)-1:=by omega
           obtain ⟨W3,hW3⟩:∃ W3,W2.setCell ⟨g,k,none⟩ (.int .i64 ((xx:Nat):Int))=W3:=⟨_,rfl⟩;have hgt:∀ cs f,W2.heap[g]? ≠some (.cells cs 39 f):=fun cs f e=>q19 hop e (by decide) (by rfl)
           have hro3:W3.ownsRow w.heap.size 39 4 (.slice so n sc) n (flT pre):=by
            rw [← hW3];refine own_setT hro (fun e=> ?_);rcases hro.2 with ⟨h1,_⟩|⟨g1,_,cur,h1,_,h3,_⟩
            · rw [h1] at e;cases e
            · rw [h1] at e;simp only [Value.ownBlock,Option.some.injEq] at e;exact hgt _ _ (by rw [← e];exact h3)
           have hop3:W3.ownsRow w.heap.size 3 1 (.slice (some ⟨g,0,none⟩) (k+1) oc) (op.set k xx).length (opV (op.set k xx)):=by
            rw [← hW3];obtain ⟨g9,cap9,h91,_,_,_,_,_,h9⟩:=q2e (op:=op) (by rw [HK.out];exact hop) HK.out;simp only [Value.slice.injEq] at h91;obtain ⟨h92,_,rfl⟩:=h91;have h92:g=g9:=by simpa using h92
            subst h92;rw [List.length_set];exact h9 xx
           have hXb3:W3.heap[w1.heap.size]? =some (.cells #[.int .i64 (kd:Int),.int .i64 (pa:Int),.int .i64 (fi:Int),.string tb] 39 (0,0)):=by
            have hne3:w1.heap.size≠g:=fun e=>by
             have h9:=HXB.out;rw [e] at h9;exact hgt _ _ h9
            rw [← hW3,Below.heap_setCell _ _ _ _ hne3];exact HXB.out
           have HBW3:Hid (Below w.heap.size w W3):=by rw [← hW3];exact HBW.out.setCell (p:=⟨g,k,none⟩) hgb _
           obtain ⟨xd0,xd1,xd2,xd3,_⟩:=q02 hXb3;rw [hxi] at hW3;have HW3:=hQz hW3
           have hfr:W2.frozen? ⟨g,k,none⟩=false:=by
            obtain ⟨g9,cap9,h91,_,_,_,_,h9,_⟩:=q2e (op:=op) (by rw [HK.out];exact hop) HK.out;simp only [Value.slice.injEq] at h91;have h92:g=g9:=by simpa using h91.1
            subst h92;exact h9
           have hszW3:=HBW3.out.size;clear hW3 hgt hxi hro hop HBW;have e40:((tb:ByteArray).toList==[40])=false:=by rw [← HTB.out];show (ByteArray.toList ⟨tx.toArray⟩==[40])=_;rw [Lib.toList_data,show (⟨tx.toArray⟩:ByteArray).data.toList=tx from rfl,h41];rfl
           have e41:((tb:ByteArray).toList==[41])=true:=by rw [← HTB.out];show (ByteArray.toList ⟨tx.toArray⟩==[41])=_;rw [Lib.toList_data,show (⟨tx.toArray⟩:ByteArray).data.toList=tx from rfl,h41];rfl
           generalize op.getD k 0=yy at *;go_upto_region 24 with fail;rw [HW3.out];have hro:=hro3;have hop:=hop3;have HBW:=HBW3;have hszW:=hszW3;clear hro3 hop3 HBW3 hszW3 xc0 xc1 xc2 xc3 xf0 xf1 xf2 xf3;have HX3:=hQz hXb3;clear hXb3;go_wp2_with (at_builtin;go_loud (refine wpList_append_own _ rfl _ _ 35 rfl w.heap.size 39 i0 (.agg #[.int .i64 0,.int .i64 0,.int .i64 0,.string ⟨#[]⟩]) 4 40 Tryz.underlying35 hi0 hz0 hz1 hz2 rfl (by decide) _ _ _ rfl (hro.alloc _) ⟨W3.heap.size,0,none⟩ 1 1 [.int .i64 (kd:Int),.int .i64 (pa:Int),.int .i64 (fi:Int),.string tb] rfl rfl (new4 (heap_alloc_new W3 _)) (by intro u hu;simp at hu;rcases hu with rfl|rfl|rfl|rfl <;> rfl) (by unfold maxLen;omega) (by omega) (by simp;omega) ?_));intro v' w5 hown' hgrow _;obtain ⟨g',cap',rfl⟩:=ownsRow_succ hown';have hop5:=q1s (by decide) hop hro hgrow;have hB5:Below w.heap.size w w5:=(HBW.out.alloc hszW _).grown hgrow (by simp;omega) (fun r e=>q16 hro r e);have hX5:=box_grown HX3.out HRL.out hgrow;obtain ⟨yc0,yc1,yc2,yc3,_⟩:=q02 hX5;have HO5:=hQz hown';have HB5:=hQz hB5;have HOP5:=hQz hop5;clear hown' hgrow hro hB5 hop5 hop hX5;go_wp2_with fail;refine (HIf.out _).mono ?_;rintro e wq ⟨rfl,hwq⟩;obtain rfl:=hwq.symm;go_wp2_with fail;go_roundw
           case rel=>
            refine ⟨q2,n+1,some ⟨g',0,none⟩,cap',_,pre++[⟨kd,pa,fi,tx,0⟩],(op.set k xx),hif.2,by first|rfl|go_num,by first|rfl|go_num,by first|rfl|go_num,⟨by rw [List.length_append,HLN.out];rfl,?_,(by first|exact HOP5.out|(rw [HK.out];exact HOP5.out)),HB5.out,by rw [HREST.out,List.append_assoc];rfl,?_,by omega,fun x hx=>by have:=HOB.out.1 x hx;omega,by have:=HOB.out.2;omega⟩⟩
            · rw [q20];dsimp only;(try rw [HTB.out])
              exact HO5.out
            · intro t ht;rcases List.mem_append.1 ht with h|h
              · exact HOK.out t h
              · rw [List.mem_singleton.1 h]
           case measure=>simp [intOf];omega
         have HOPN:=hQz (HPO.out.2.2 h40 h41);rw [HOPN.out] at HREST HOB;have e40:((tb:ByteArray).toList==[40])=false:=by rw [← HTB.out,Lib.toList_data,bqZ];exact h40
         have e41:((tb:ByteArray).toList==[41])=false:=by rw [← HTB.out,Lib.toList_data,bqZ];exact h41
         go_wp2_with (at_builtin;go_loud (refine wpList_append_own _ rfl _ _ 35 rfl w.heap.size 39 i0 (.agg #[.int .i64 0,.int .i64 0,.int .i64 0,.string ⟨#[]⟩]) 4 40 Tryz.underlying35 hi0 hz0 hz1 hz2 rfl (by decide) _ _ _ rfl (hro.alloc _) ⟨W2.heap.size,0,none⟩ 1 1 [.int .i64 (kd:Int),.int .i64 (pa:Int),.int .i64 (fi:Int),.string tb] rfl rfl (new4 (heap_alloc_new W2 _)) (by intro u hu;simp at hu;rcases hu with rfl|rfl|rfl|rfl <;> rfl) (by unfold maxLen;omega) (by omega) (by simp;omega) ?_));intro v' w5 hown' hgrow _;obtain ⟨g',cap',rfl⟩:=ownsRow_succ hown';have hop5:=q1s (by decide) hop hro hgrow;have hB5:Below w.heap.size w w5:=(HBW.out.alloc hszW _).grown hgrow (by simp;omega) (fun r e=>q16 hro r e);have hX5:=box_grown HXB.out HRL.out hgrow;obtain ⟨yc0,yc1,yc2,yc3,_⟩:=q02 hX5;have HO5:=hQz hown';have HB5:=hQz hB5;have HOP5:=hQz hop5;clear hown' hgrow hro hB5 hop5 hop hX5;go_wp2_with fail;refine (HIf.out _).mono ?_;rintro e wq ⟨rfl,hwq⟩;obtain rfl:=hwq.symm;go_wp2_with fail;go_roundw
         case rel=>
          refine ⟨q2,n+1,some ⟨g',0,none⟩,cap',_,pre++[⟨kd,pa,fi,tx,0⟩],op,hif.2,by first|rfl|go_num,by first|rfl|go_num,by first|rfl|go_num,⟨by rw [List.length_append,HLN.out];rfl,?_,(by first|exact HOP5.out|(rw [HK.out];exact HOP5.out)),HB5.out,by rw [HREST.out,List.append_assoc];rfl,?_,by omega,fun x hx=>by have:=HOB.out.1 x hx;omega,by have:=HOB.out.2;omega⟩⟩
          · rw [q20];dsimp only;(try rw [HTB.out])
            exact HO5.out
          · intro t ht;rcases List.mem_append.1 ht with h|h
            · exact HOK.out t h
            · rw [List.mem_singleton.1 h]
         case measure=>simp [intOf];omega
     · have heb:(((er:Nat):Int)==0)=false:=by rw [bqZ];omega
       have hne:¬ ((er:Nat):Int)=0:=by omega
       have HREST:=hQz (HS.out.rest.trans (by rw [HBD.out he]));have HBF:=hQz ((HS.out.below.trans (hb1.mono HS.out.below.size)));have HBX:=hQz (HBF.out.alloc HBF.out.size (.cells #[.int .i64 0,.int .i64 0,.int .i64 0,.string ⟨#[]⟩] 39));subst hpa;clear hb1 HPq HUP HST HBD HPO0 HPP0 HS;go_wp2_with fail;(try simp only [Exit.inBlock,Exit.then])
       refine bodyPost_ret (v:= .tuple #[.slice none 0 0,.int .i64 (er:Int),.int .i64 (pa:Int)]) (by simp [results,Tryz.results8,go_sem]) rfl ?_;exact ⟨.inr ⟨pre,_,HREST.out,he,rfl⟩,HBX.out⟩
  · have hi1:¬ (q:Int)<(s.size:Int):=by omega
    have hend:=HS.out.rest.trans (by rw [sc_end (f:=l.length) (op:=op) (p:=q) (by rw [HL.out];exact hlt)]);have hopl:=HS.out.opl;by_cases ho:op=[]
    · rw [if_pos ho,List.append_nil] at hend;subst ho
      have HFIN:Hid (ScR l w wr (.returned (.tuple #[.slice so n sc,.int .i64 0,.int .i64 0]))):=by
       refine ⟨.inl ⟨by rw [hend];exact HS.out.ok,so,sc,?_,?_⟩,HS.out.below⟩
       · rw [hend,HS.out.len]
       · rw [hend,HS.out.len];exact HS.out.own
      clear hend HS;simp only [List.length_nil] at *;go_wp2_with fail;(try simp only [Exit.inBlock,Exit.then])
      refine bodyPost_ret (v:= .tuple #[.slice so n sc,.int .i64 0,.int .i64 0]) (by simp [results,Tryz.results8,go_sem]) rfl ?_;exact HFIN.out
    · rw [if_neg ho] at hend;have hpos:=List.length_pos_iff.2 ho
      have HFIN:Hid (ScR l w wr (.returned (.tuple #[.slice none 0 0,.int .i64 21,.int .i64 (s.size:Int)]))):=by
       refine ⟨.inr ⟨pre,_,hend,by show (21:Nat)≠0;decide,?_⟩,HS.out.below⟩;show _=Ending.returned (.tuple #[.slice none 0 0,.int .i64 ((21:Nat):Int),.int .i64 ((l.length:Nat):Int)]);rw [HL.out];rfl
      clear hend HS;generalize op.length=m at *;have hm1:(0:Int)<(m:Int):=by omega
      go_wp2_with fail;(try simp only [Exit.inBlock,Exit.then])
      refine bodyPost_ret (v:= .tuple #[.slice none 0 0,.int .i64 21,.int .i64 (s.size:Int)]) (by simp [results,Tryz.results8,go_sem]) rfl ?_;exact HFIN.out
end Go.Proofs.YtbpopnafcpfifaaGreatDoor
