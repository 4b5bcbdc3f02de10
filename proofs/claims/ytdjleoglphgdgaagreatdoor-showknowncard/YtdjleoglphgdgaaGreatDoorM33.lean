import Derived.Test.YtdjleoglphgdgaaGreatDoorM28
import Derived.Test.YtdjleoglphgdgaaGreatDoorM32
import Derived.Deep.Cut
import Derived.BigQuiet
set_option linter.unusedVariables false
set_option linter.unusedSimpArgs false
namespace Go.Proofs.YtdjleoglphgdgaaGreatDoor
open Go.RowKit Go.Shelf
def ScR (l:List UInt8) (w w':World) (e:Ending):Prop:=
 (((∀ t∈scW l,t.err=0)∧∃ so sc,e= .returned (.tuple #[.slice so (scW l).length sc,.int .i64 0,.int .i64 0])∧Hid (w'.ownsRow w.heap.size 82 4 (.slice so (scW l).length sc) (scW l).length (flT (scW l))))∨(∃ pre x,scW l=pre++[x]∧x.err≠0∧e= .returned (.tuple #[.slice none 0 0,.int .i64 (x.err:Int),.int .i64 (x.at_:Int)])))∧Below w.heap.size w w'
structure ScS (w:World) (s:ByteArray) (l:List UInt8) (W:World) (vt v:Value) (n q:Nat) (pre:List Tok) (op:List Nat):Prop where
 len:pre.length=n
 own:W.ownsRow w.heap.size 82 4 vt n (flT pre)
 cut:CtW w.heap.size w.heap.size s v op W
 below:Below w.heap.size w W
 rest:scW l=pre++scF l (l.length+1) q op
 ok:∀ t∈pre,t.err=0
 few:n≤q
 opn:∀ x∈op,x≤q
 opl:op.length≤q
theorem ScS.row {w:World} {s:ByteArray} {l:List UInt8} {W W':World} {vt v v':Value} {n q:Nat} {pre:List Tok} {op:List Nat} (h:ScS w s l W vt v n q pre op) (hL:CtL w.heap.size v.ownBlock W W'):W'.ownsRow w.heap.size 82 4 vt n (flT pre):=by
 refine ⟨h.own.1,?_⟩;rcases h.own.2 with h1|⟨g,cap,cur,rfl,e2,e3,rest⟩
 · exact .inl h1
 · refine .inr ⟨g,cap,cur,rfl,e2,(hL.block g (Array.getElem?_eq_some_iff.1 e3).1 (fun e=> ?_) (q1f h.cut.row e3 (by decide))).trans e3,rest⟩;have hb:=h.cut.box;unfold CtB at hb;rw [← e,e3] at hb;simp at hb
theorem CtW.grown {B C:Nat} {s:ByteArray} {v vt:Value} {op:List Nat} {W w5:World} {o:Obj} {n:Nat} {xs:List Value} (h:CtW B C s v op W) (ho:W.ownsRow B 82 4 vt n xs) (hg:(W.alloc o).grownBy w5 vt.ownBlock):CtW B C s v op w5:=by
 have hlt:=h.box.lt;refine ⟨(hg.block C (by simp;omega) (fun e=>q1f ho h.box (by decide) e.symm)).trans ((Below.heap_alloc _ _ _ hlt).trans h.box),h.row.1,?_⟩;rcases h.row.2 with h1|⟨g,cap,cur,rfl,e2,e3,rest⟩
 · exact .inl h1
 · have hgl:=(Array.getElem?_eq_some_iff.1 e3).1;exact .inr ⟨g,cap,cur,rfl,e2,(hg.block g (by simp;omega) (fun e=>q1f ho e3 (by decide) e.symm)).trans ((Below.heap_alloc _ _ _ hgl).trans e3),rest⟩
set_option maxRecDepth 100000 in
set_option maxHeartbeats 6400000 in
theorem w_wScan (s:ByteArray) (w:World) (ss:s.size≤16777216) (hE:ErrIn w):
 Calls Tryz.prog 28 #[.string s] w fun e w'=>ScR s.data.toList w w' e:=by
 obtain ⟨i0,hi0,hz0,hz1,hz2⟩:=info_parts Tryz.infoTok;have HI0:=hQz (fun u=>w_idle s 0 u (Nat.zero_le _) (by omega));have HId:Hid (∀ q u,q≤s.size→Calls Tryz.prog 42 #[.string s,.int .i64 (q:Int)] u fun e w'=>e= .returned (.int .i64 ((idW s.data.toList q:Nat):Int))∧w'=u):=fun q u hq=>w_idle s q u hq (by omega);have HTk:Hid (∀ (p:Nat) (v:Value) (op:List Nat) (u:World),p<s.size→CtW w.heap.size w.heap.size s v op u→(∀ x∈op,x≤1099511627776)→op.length≤1099511627776→ErrIn u→Calls Tryz.prog 43 #[.pointer (some ⟨w.heap.size,0,none⟩),.int .i64 (p:Int)] u fun e w'=>CtP w.heap.size w.heap.size s v op (tokW s.data.toList op p) u w' e):=fun p v op u hp hC h1 h2 hEu=>w_token _ _ s p v op u hp (by omega) hC (Nat.le_refl _) h1 h2 hEu;obtain ⟨l,hl⟩:∃ l,l=s.data.toList:=⟨_,rfl⟩;have HL:Hid (l.length=s.size):=by show _=_;rw [hl];exact q0d s
 rw [← hl] at HI0 HId HTk ⊢;clear hl;have hq0:=idW_ge (l:=l) (p:=0) (Nat.zero_le _);rw [HL.out] at hq0;have HSW:Hid (scW l=[]++scF l (l.length+1) (idW l 0) []):=rfl;generalize idW l 0=q0 at *;have HE:=hQz hE;clear hE;go_in;go_wp2_with fail;refine (HI0.out _).mono ?_;rintro e wq ⟨rfl,hwq⟩;obtain rfl:=hwq.symm;have hb0:=q0a w (.cells #[.string s,.slice none 0 0] 79);have hx0:=heap_alloc_new w (.cells #[.string s,.slice none 0 0] 79);obtain ⟨W0,hW0⟩:∃ W0,w.alloc (.cells #[.string s,.slice none 0 0] 79)=W0:=⟨_,rfl⟩;rw [hW0] at hb0 hx0;have HS0:Hid (ScS w s l W0 (.slice none 0 0) (.slice none 0 0) 0 q0 [] []):=⟨rfl,World.ownsRow_nil _ _ _ _,⟨hx0,World.ownsRow_nil _ _ _ _⟩,hb0,HSW.out,(fun t ht=>by cases ht),Nat.zero_le _,(fun x hx=>by cases hx),Nat.zero_le _⟩;rw [hW0];clear hb0 hx0 hW0 HI0;go_wp2_with fail
 go_loopw [5,7] (fun vt va wr=>∃ (q n:Nat) (so:Option Addr) (sc:Nat) (v:Value) (pre:List Tok) (op:List Nat),q≤s.size∧va= .int .i64 (q:Int)∧vt= .slice so n sc∧Hid (ScS w s l wr (.slice so n sc) v n q pre op)) (fun _ a _=>s.size-(intOf a).toNat)
 case atStart=>exact ⟨q0,0,none,0,.slice none 0 0,[],[],hq0.2,rfl,rfl,HS0⟩
 case round=>
  clear HS0 HSW hq0;obtain ⟨q,n,so,sc,v,pre,op,hq,rfl,rfl,HS⟩:=hrel;by_cases hlt:q<s.size
  · have hi1:(q:Int)<(s.size:Int):=by omega
    have hql:q<l.length:=by rw [HL.out];exact hlt
    have hEr:=HE.out.keep HS.out.below;have HT:=hQz (HTk.out q v op wr hlt HS.out.cut (fun x hx=>by have:=HS.out.opn x hx;omega) (by have:=HS.out.opl;omega) hEr);have hup:=tok_up (op:=op) hql;have hst:=sc_step (op:=op) hql;have hbd:=sc_bad (f:=l.length) (op:=op) hql;have hob:=open_bd (t:=tokW l op q) HS.out.opn HS.out.opl;generalize tokW l op q=t at *;obtain ⟨kd,pa,fi,tx,er⟩:=t;have HUP:=hQz hup;have HST:=hQz hst;have HBD:=hQz hbd;have HOB:=hQz hob;clear hup hst hbd hob hEr;unfold CtP tokV at HT;dsimp only at HT HUP HST HBD;have hfew:=HS.out.few;by_cases he:er=0
    · subst he;have hfi:=(HUP.out rfl).2.1;have hfl:=(HUP.out rfl).2.2;rw [HL.out] at hfl;have HIf:=hQz (fun u=>HId.out fi u hfl);have hif:=idW_ge (l:=l) (p:=fi) (by rw [HL.out];exact hfl);rw [HL.out] at hif;have HREST:=hQz (HS.out.rest.trans (by rw [HST.out rfl]));generalize q2a ⟨kd,pa,fi,tx,0⟩ op=op2 at *;generalize idW l fi=q2 at *;have htb:∃ tb:ByteArray,(⟨tx.toArray⟩:ByteArray)=tb:=⟨_,rfl⟩;obtain ⟨tb,htb⟩:=htb;rw [htb] at HT;have HTB:=hQz htb;clear htb HUP HST HBD;go_wp2_with fail;refine HT.out.mono ?_;rintro e w1 ⟨rfl,⟨v1,hcw⟩,hcl,hbl⟩;have hro:=HS.out.row (v':=v1) hcl;have hlen:=HS.out.len;have HCW:=hQz hcw;have HBL:=hQz (HS.out.below.trans hbl);have HOK:=hQz HS.out.ok;have HLN:=hQz hlen;have hbx:=q0a w1 (.cells #[.int .i64 (kd:Int),.int .i64 (pa:Int),.int .i64 (fi:Int),.string tb] 82);have hxb:=heap_alloc_new w1 (.cells #[.int .i64 (kd:Int),.int .i64 (pa:Int),.int .i64 (fi:Int),.string tb] 82);clear hcw hcl hbl hlen HT;go_upto_region 8 with fail;obtain ⟨W2,hW2⟩:∃ W2,w1.alloc (.cells #[.int .i64 (kd:Int),.int .i64 (pa:Int),.int .i64 (fi:Int),.string tb] 82)=W2:=⟨_,rfl⟩;rw [hW2] at hbx hxb ⊢;have hro2:=below_row hbx hro;have HC2:=hQz (HCW.out.keep hbx);have HB2:=hQz (HBL.out.trans (hbx.mono HBL.out.size));obtain ⟨xc0,xc1,xc2,xc3,xf0,xf1,xf2,xf3⟩:=q06 hxb;have HXB:=hQz hxb;have hsz2:=HB2.out.size;have hxl:=(Array.getElem?_eq_some_iff.1 hxb).1;have HRL:Hid (∀ g,(Value.slice so n sc).ownBlock=some g→g<w1.heap.size):=q14 hro;clear hW2 hbx hxb hro;go_wp2_with (at_builtin;go_loud (refine wpList_append_own _ rfl _ _ 56 rfl w.heap.size 82 i0 (.agg #[.int .i64 0,.int .i64 0,.int .i64 0,.string ⟨#[]⟩]) 4 40 Tryz.underlying56 hi0 hz0 hz1 hz2 rfl (by decide) _ _ _ rfl (hro2.alloc _) ⟨W2.heap.size,0,none⟩ 1 1 [.int .i64 (kd:Int),.int .i64 (pa:Int),.int .i64 (fi:Int),.string tb] rfl rfl (new4 (heap_alloc_new W2 _)) (by intro u hu;simp at hu;rcases hu with rfl|rfl|rfl|rfl <;> rfl) (by unfold maxLen;omega) (by omega) (by simp;omega) ?_));intro v' w5 hown' hgrow _;obtain ⟨g',cap',rfl⟩:=ownsRow_succ hown';have hX5:=(hgrow.block w1.heap.size (by simp;omega) (fun e=>absurd (HRL.out _ e.symm) (Nat.lt_irrefl _))).trans ((Below.heap_alloc _ _ _ hxl).trans HXB.out);obtain ⟨yc0,yc1,yc2,yc3,_⟩:=q06 hX5;have HC5:=hQz (HC2.out.grown hro2 hgrow)
      have HB5:Hid (Below w.heap.size w w5):=(HB2.out.alloc hsz2 _).grown hgrow (by simp;omega) (fun r e=>own_baseW hro2 r e);have HO5:=hQz hown';clear hX5 hown' hgrow hro2 xc0 xc1 xc2 xc3 xf0 xf1 xf2 xf3 HS;go_wp2_with fail;refine (HIf.out _).mono ?_;rintro e wq ⟨rfl,hwq⟩;obtain rfl:=hwq.symm;go_wp2_with fail;go_roundw
      case rel=>
       refine ⟨q2,n+1,some ⟨g',0,none⟩,cap',v1,pre++[⟨kd,pa,fi,tx,0⟩],op2,hif.2,by first|rfl|go_num,by first|rfl|go_num,⟨by rw [List.length_append,HLN.out];rfl,?_,HC5.out,HB5.out,by rw [HREST.out,List.append_assoc];rfl,?_,by omega,fun x hx=>by have:=HOB.out.1 x hx;omega,by have:=HOB.out.2;omega⟩⟩
       · rw [flT_snoc];dsimp only;rw [HTB.out];exact HO5.out
       · intro t ht;rcases List.mem_append.1 ht with h|h
         · exact HOK.out t h
         · rw [List.mem_singleton.1 h]
      case measure=>simp [intOf];omega
    · have heb:(((er:Nat):Int)==0)=false:=by rw [bqZ];omega
      have hne:¬ ((er:Nat):Int)=0:=by omega
      have HREST:=hQz (HS.out.rest.trans (by rw [HBD.out he]));have hmx:Tryz.prog.follows .mixedOrders=true:=by kernel_rfl
      have htb:∃ tb:ByteArray,(⟨tx.toArray⟩:ByteArray)=tb:=⟨_,rfl⟩;obtain ⟨tb,htb⟩:=htb;rw [htb] at HT;clear htb HUP HST HBD HOB;go_wp2_with fail;refine HT.out.mono ?_;rintro e w1 ⟨rfl,_,_,hbl⟩;have HBL:=hQz (HS.out.below.trans hbl);have hbx:=q0a w1 (.cells #[.int .i64 (kd:Int),.int .i64 (pa:Int),.int .i64 (fi:Int),.string tb] 82);have hxb:=heap_alloc_new w1 (.cells #[.int .i64 (kd:Int),.int .i64 (pa:Int),.int .i64 (fi:Int),.string tb] 82);clear hbl HT;go_upto_region 7 with fail;obtain ⟨W2,hW2⟩:∃ W2,w1.alloc (.cells #[.int .i64 (kd:Int),.int .i64 (pa:Int),.int .i64 (fi:Int),.string tb] 82)=W2:=⟨_,rfl⟩;rw [hW2] at hbx hxb ⊢;have HB2:=hQz (HBL.out.trans (hbx.mono HBL.out.size));obtain ⟨xc0,xc1,xc2,xc3,_⟩:=q06 hxb;clear hW2 hbx hxb;go_quiet (fail);have HB3:=hQz (belowN HB2.out nq);generalize W2.drewN nq=W3 at *;go_wp2_with fail;(try simp only [Exit.inBlock,Exit.then])
      refine bodyPost_ret (v:= .tuple #[.slice none 0 0,.int .i64 (er:Int),.int .i64 (pa:Int)]) (by simp [results,Tryz.results28,go_sem]) rfl ?_;exact ⟨.inr ⟨pre,⟨kd,pa,fi,tx,er⟩,HREST.out,he,rfl⟩,HB3.out⟩
  · have hi1:¬ (q:Int)<(s.size:Int):=by omega
    have hend:=HS.out.rest.trans (by rw [sc_end (f:=l.length) (op:=op) (p:=q) (by rw [HL.out];exact hlt)]);obtain ⟨so2,sc2,rfl⟩:=own_shapeT HS.out.cut.row;have c1:=HS.out.cut.box.c1;have hopl:=HS.out.opl;by_cases ho:op=[]
    · rw [if_pos ho,List.append_nil] at hend;subst ho;have HEND:=hQz hend;have c1:wr.cell? ⟨w.heap.size,1,none⟩=some (.slice so2 0 sc2):=c1
      have HFIN:Hid (ScR l w wr (.returned (.tuple #[.slice so n sc,.int .i64 0,.int .i64 0]))):=by
       refine ⟨.inl ⟨by rw [hend];exact HS.out.ok,so,sc,?_,?_⟩,HS.out.below⟩
       · rw [hend,HS.out.len]
       · rw [hend,HS.out.len];exact HS.out.own
      clear hend;go_wp2_with fail;(try simp only [Exit.inBlock,Exit.then])
      refine bodyPost_ret (v:= .tuple #[.slice so n sc,.int .i64 0,.int .i64 0]) (by simp [results,Tryz.results28,go_sem]) rfl ?_;exact HFIN.out
    · rw [if_neg ho] at hend;have hpos:=List.length_pos_iff.2 ho;generalize op.length=m at *;have hm1:(0:Int)<(m:Int):=by omega
      have HFIN:Hid (ScR l w wr (.returned (.tuple #[.slice none 0 0,.int .i64 21,.int .i64 (s.size:Int)]))):=by
       refine ⟨.inr ⟨pre,_,hend,by show (21:Nat)≠0;decide,?_⟩,HS.out.below⟩;show _=Ending.returned (.tuple #[.slice none 0 0,.int .i64 ((21:Nat):Int),.int .i64 ((l.length:Nat):Int)]);rw [HL.out];rfl
      clear hend HS;go_wp2_with fail;(try simp only [Exit.inBlock,Exit.then])
      refine bodyPost_ret (v:= .tuple #[.slice none 0 0,.int .i64 21,.int .i64 (s.size:Int)]) (by simp [results,Tryz.results28,go_sem]) rfl ?_;exact HFIN.out
end Go.Proofs.YtdjleoglphgdgaaGreatDoor
