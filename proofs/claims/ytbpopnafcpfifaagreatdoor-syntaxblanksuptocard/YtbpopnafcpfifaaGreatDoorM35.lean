import Derived.Test.YtbpopnafcpfifaaGreatDoorM26
import Derived.Test.YtbpopnafcpfifaaGreatDoorM33
import Derived.Deep.Cut
import Derived.BigQuiet
import Derived.Test.YtbpopnafcpfifaaGreatDoorM27
import Derived.Test.YtbpopnafcpfifaaGreatDoorM25
set_option linter.unusedVariables false
set_option linter.unusedSimpArgs false
namespace Go.Proofs.YtbpopnafcpfifaaGreatDoor
open Go.RowKit Go.Shelf
def ScR (l:List UInt8) (w w':World) (e:Ending):Prop:=
 (((∀ t∈scW l,t.err=0)∧∃ so sc,e= .returned (.tuple #[.slice so (scW l).length sc,.int .i64 0,.int .i64 0])∧Hid (w'.ownsRow w.heap.size 39 4 (.slice so (scW l).length sc) (scW l).length (flT (scW l))))∨(∃ pre x,scW l=pre++[x]∧x.err≠0∧e= .returned (.tuple #[.slice none 0 0,.int .i64 (x.err:Int),.int .i64 (x.at_:Int)])))∧Below w.heap.size w w'
structure ScS (w:World) (s:ByteArray) (l:List UInt8) (W:World) (vt v:Value) (n q:Nat) (pre:List Tok) (op:List Nat):Prop where
 len:pre.length=n
 own:W.ownsRow w.heap.size 39 4 vt n (flT pre)
 cut:CtW w.heap.size w.heap.size s v op W
 below:Below w.heap.size w W
 rest:scW l=pre++scF l (l.length+1) q op
 ok:∀ t∈pre,t.err=0
 few:n≤q
 opn:∀ x∈op,x≤q
 opl:op.length≤q
theorem ScS.row {w:World} {s:ByteArray} {l:List UInt8} {W W':World} {vt v v':Value} {n q:Nat} {pre:List Tok} {op:List Nat} (h:ScS w s l W vt v n q pre op) (hL:CtL w.heap.size v.ownBlock W W'):W'.ownsRow w.heap.size 39 4 vt n (flT pre):=by
 refine ⟨h.own.1,?_⟩;rcases h.own.2 with h1|⟨g,cap,cur,rfl,e2,e3,rest⟩
 · exact .inl h1
 · refine .inr ⟨g,cap,cur,rfl,e2,(hL.block g (Array.getElem?_eq_some_iff.1 e3).1 (fun e=> ?_) (q19 h.cut.row e3 (by decide))).trans e3,rest⟩;have hb:=h.cut.box;unfold CtB at hb;rw [← e,e3] at hb;simp at hb
theorem CtW.grown {B C:Nat} {s:ByteArray} {v vt:Value} {op:List Nat} {W w5:World} {o:Obj} {n:Nat} {xs:List Value} (h:CtW B C s v op W) (ho:W.ownsRow B 39 4 vt n xs) (hg:(W.alloc o).grownBy w5 vt.ownBlock):CtW B C s v op w5:=by
 have hlt:=h.box.lt;refine ⟨(hg.block C (by simp;omega) (fun e=>q19 ho h.box (by decide) e.symm)).trans ((Below.heap_alloc _ _ _ hlt).trans h.box),h.row.1,?_⟩;rcases h.row.2 with h1|⟨g,cap,cur,rfl,e2,e3,rest⟩
 · exact .inl h1
 · have hgl:=(Array.getElem?_eq_some_iff.1 e3).1;exact .inr ⟨g,cap,cur,rfl,e2,(hg.block g (by simp;omega) (fun e=>q19 ho e3 (by decide) e.symm)).trans ((Below.heap_alloc _ _ _ hgl).trans e3),rest⟩
set_option maxRecDepth 100000 in
set_option maxHeartbeats 6400000 in
theorem w_wScan (s:ByteArray) (w:World) (ss:s.size≤16777216) (hE:ErrIn w):
 Calls Tryz.prog 10 #[.string s] w fun e w'=>ScR s.data.toList w w' e:=by
 obtain ⟨i0,hi0,hz0,hz1,hz2⟩:=info_parts Tryz.infoTok;have HI0:=hQz (fun u=>w_idle s 0 u (Nat.zero_le _) (by omega));have HId:Hid (∀ q u,q≤s.size→Calls Tryz.prog 18 #[.string s,.int .i64 (q:Int)] u fun e w'=>e= .returned (.int .i64 ((idW s.data.toList q:Nat):Int))∧w'=u):=fun q u hq=>w_idle s q u hq (by omega);have HTk:Hid (∀ (p:Nat) (v:Value) (op:List Nat) (u:World),p<s.size→CtW w.heap.size w.heap.size s v op u→(∀ x∈op,x≤1099511627776)→op.length≤1099511627776→ErrIn u→Calls Tryz.prog 19 #[.pointer (some ⟨w.heap.size,0,none⟩),.int .i64 (p:Int)] u fun e w'=>CtP w.heap.size w.heap.size s v op (tokW s.data.toList op p) u w' e):=fun p v op u hp hC h1 h2 hEu=>w_token _ _ s p v op u hp (by omega) hC (Nat.le_refl _) h1 h2 hEu;obtain ⟨l,hl⟩:∃ l,l=s.data.toList:=⟨_,rfl⟩;have HL:Hid (l.length=s.size):=by show _=_;rw [hl];exact q08 s
 rw [← hl] at HI0 HId HTk ⊢;clear hl;have hq0:=q0Y (l:=l) (p:=0) (Nat.zero_le _);rw [HL.out] at hq0;have HSW:Hid (scW l=[]++scF l (l.length+1) (idW l 0) []):=rfl;generalize idW l 0=q0 at *;have HE:=hQz hE;clear hE;go_enter Tryz.func10,Tryz.ntmps10;go_wp2_with fail;refine (HI0.out _).mono ?_;rintro e wq ⟨rfl,hwq⟩;obtain rfl:=hwq.symm;have hb0:=q0a w (.cells #[.string s,.slice none 0 0] 61);have hx0:=heap_alloc_new w (.cells #[.string s,.slice none 0 0] 61);obtain ⟨W0,hW0⟩:∃ W0,w.alloc (.cells #[.string s,.slice none 0 0] 61)=W0:=⟨_,rfl⟩;rw [hW0] at hb0 hx0;have HS0:Hid (ScS w s l W0 (.slice none 0 0) (.slice none 0 0) 0 q0 [] []):=⟨rfl,World.ownsRow_nil _ _ _ _,⟨hx0,World.ownsRow_nil _ _ _ _⟩,hb0,HSW.out,(fun t ht=>by cases ht),Nat.zero_le _,(fun x hx=>by cases hx),Nat.zero_le _⟩;rw [hW0];clear hb0 hx0 hW0 HI0;go_wp2_with fail
 go_loopw [5,7] (fun vt va wr=>∃ (q n:Nat) (so:Option Addr) (sc:Nat) (v:Value) (pre:List Tok) (op:List Nat),q≤s.size∧va= .int .i64 (q:Int)∧vt= .slice so n sc∧Hid (ScS w s l wr (.slice so n sc) v n q pre op)) (fun _ a _=>s.size-(intOf a).toNat)
 case atStart=>exact ⟨q0,0,none,0,.slice none 0 0,[],[],hq0.2,rfl,rfl,HS0⟩
 case round=>
  clear HS0 HSW hq0;obtain ⟨q,n,so,sc,v,pre,op,hq,rfl,rfl,HS⟩:=hrel;by_cases hlt:q<s.size
  · have hi1:(q:Int)<(s.size:Int):=by omega
    have hql:q<l.length:=by rw [HL.out];exact hlt
    have hEr:=HE.out.keep HS.out.below;have HT:=hQz (HTk.out q v op wr hlt HS.out.cut (fun x hx=>by have:=HS.out.opn x hx;omega) (by have:=HS.out.opl;omega) hEr);have hup:=q2y (op:=op) hql;have hst:=sc_step (op:=op) hql;have hbd:=sc_bad (f:=l.length) (op:=op) hql;have hob:=open_bd (t:=tokW l op q) HS.out.opn HS.out.opl;generalize tokW l op q=t at *;obtain ⟨kd,pa,fi,tx,er⟩:=t;have HUP:=hQz hup;have HST:=hQz hst;have HBD:=hQz hbd;have HOB:=hQz hob;clear hup hst hbd hob hEr;unfold CtP tokV at HT;dsimp only at HT HUP HST HBD;have hfew:=HS.out.few;by_cases he:er=0
    · subst he;have hfi:=(HUP.out rfl).2.1;have hfl:=(HUP.out rfl).2.2;rw [HL.out] at hfl;have HIf:=hQz (fun u=>HId.out fi u hfl);have hif:=q0Y (l:=l) (p:=fi) (by rw [HL.out];exact hfl);rw [HL.out] at hif;have HREST:=hQz (HS.out.rest.trans (by rw [HST.out rfl]));generalize q15 ⟨kd,pa,fi,tx,0⟩ op=op2 at *;generalize idW l fi=q2 at *;have htb:∃ tb:ByteArray,(⟨tx.toArray⟩:ByteArray)=tb:=⟨_,rfl⟩;obtain ⟨tb,htb⟩:=htb;rw [htb] at HT;have HTB:=hQz htb;clear htb HUP HST HBD;go_wp2_with fail;refine HT.out.mono ?_;rintro e w1 ⟨rfl,⟨v1,hcw⟩,hcl,hbl⟩;have hro:=HS.out.row (v':=v1) hcl;have hlen:=HS.out.len;have HCW:=hQz hcw;have HBL:=hQz (HS.out.below.trans hbl);have HOK:=hQz HS.out.ok;have HLN:=hQz hlen;have hbx:=q0a w1 (.cells #[.int .i64 (kd:Int),.int .i64 (pa:Int),.int .i64 (fi:Int),.string tb] 39);have hxb:=heap_alloc_new w1 (.cells #[.int .i64 (kd:Int),.int .i64 (pa:Int),.int .i64 (fi:Int),.string tb] 39);clear hcw hcl hbl hlen HT;go_upto_region 8 with fail;obtain ⟨W2,hW2⟩:∃ W2,w1.alloc (.cells #[.int .i64 (kd:Int),.int .i64 (pa:Int),.int .i64 (fi:Int),.string tb] 39)=W2:=⟨_,rfl⟩;rw [hW2] at hbx hxb ⊢;have hro2:=q0K hbx hro;have HC2:=hQz (HCW.out.keep hbx);have HB2:=hQz (HBL.out.trans (hbx.mono HBL.out.size));obtain ⟨xc0,xc1,xc2,xc3,xf0,xf1,xf2,xf3⟩:=q02 hxb;have HXB:=hQz hxb;have hsz2:=HB2.out.size;have hxl:=(Array.getElem?_eq_some_iff.1 hxb).1;have HRL:Hid (∀ g,(Value.slice so n sc).ownBlock=some g→g<w1.heap.size):=q0W hro;clear hW2 hbx hxb hro;go_wp2_with (at_builtin;go_loud (refine wpList_append_own _ rfl _ _ 35 rfl w.heap.size 39 i0 (.agg #[.int .i64 0,.int .i64 0,.int .i64 0,.string ⟨#[]⟩]) 4 40 Tryz.underlying35 hi0 hz0 hz1 hz2 rfl (by decide) _ _ _ rfl (hro2.alloc _) ⟨W2.heap.size,0,none⟩ 1 1 [.int .i64 (kd:Int),.int .i64 (pa:Int),.int .i64 (fi:Int),.string tb] rfl rfl (new4 (heap_alloc_new W2 _)) (by intro u hu;simp at hu;rcases hu with rfl|rfl|rfl|rfl <;> rfl) (by unfold maxLen;omega) (by omega) (by simp;omega) ?_));intro v' w5 hown' hgrow _;obtain ⟨g',cap',rfl⟩:=ownsRow_succ hown';have hX5:=(hgrow.block w1.heap.size (by simp;omega) (fun e=>absurd (HRL.out _ e.symm) (Nat.lt_irrefl _))).trans ((Below.heap_alloc _ _ _ hxl).trans HXB.out);obtain ⟨yc0,yc1,yc2,yc3,_⟩:=q02 hX5;have HC5:=hQz (HC2.out.grown hro2 hgrow)
      have HB5:Hid (Below w.heap.size w w5):=(HB2.out.alloc hsz2 _).grown hgrow (by simp;omega) (fun r e=>q16 hro2 r e);have HO5:=hQz hown';clear hX5 hown' hgrow hro2 xc0 xc1 xc2 xc3 xf0 xf1 xf2 xf3 HS;go_wp2_with fail;refine (HIf.out _).mono ?_;rintro e wq ⟨rfl,hwq⟩;obtain rfl:=hwq.symm;go_wp2_with fail;go_roundw
      case rel=>
       refine ⟨q2,n+1,some ⟨g',0,none⟩,cap',v1,pre++[⟨kd,pa,fi,tx,0⟩],op2,hif.2,by first|rfl|go_num,by first|rfl|go_num,⟨by rw [List.length_append,HLN.out];rfl,?_,HC5.out,HB5.out,by rw [HREST.out,List.append_assoc];rfl,?_,by omega,fun x hx=>by have:=HOB.out.1 x hx;omega,by have:=HOB.out.2;omega⟩⟩
       · rw [q20];dsimp only;rw [HTB.out];exact HO5.out
       · intro t ht;rcases List.mem_append.1 ht with h|h
         · exact HOK.out t h
         · rw [List.mem_singleton.1 h]
      case measure=>simp [intOf];omega
    · have heb:(((er:Nat):Int)==0)=false:=by rw [bqZ];omega
      have hne:¬ ((er:Nat):Int)=0:=by omega
      have HREST:=hQz (HS.out.rest.trans (by rw [HBD.out he]));have hmx:Tryz.prog.follows .mixedOrders=true:=by kernel_rfl
      have htb:∃ tb:ByteArray,(⟨tx.toArray⟩:ByteArray)=tb:=⟨_,rfl⟩;obtain ⟨tb,htb⟩:=htb;rw [htb] at HT;clear htb HUP HST HBD HOB;go_wp2_with fail;refine HT.out.mono ?_;rintro e w1 ⟨rfl,_,_,hbl⟩;have HBL:=hQz (HS.out.below.trans hbl);have hbx:=q0a w1 (.cells #[.int .i64 (kd:Int),.int .i64 (pa:Int),.int .i64 (fi:Int),.string tb] 39);have hxb:=heap_alloc_new w1 (.cells #[.int .i64 (kd:Int),.int .i64 (pa:Int),.int .i64 (fi:Int),.string tb] 39);clear hbl HT;go_upto_region 7 with fail;obtain ⟨W2,hW2⟩:∃ W2,w1.alloc (.cells #[.int .i64 (kd:Int),.int .i64 (pa:Int),.int .i64 (fi:Int),.string tb] 39)=W2:=⟨_,rfl⟩;rw [hW2] at hbx hxb ⊢;have HB2:=hQz (HBL.out.trans (hbx.mono HBL.out.size));obtain ⟨xc0,xc1,xc2,xc3,_⟩:=q02 hxb;clear hW2 hbx hxb;go_quiet (fail);have HB3:=hQz (belowN HB2.out nq);generalize W2.drewN nq=W3 at *;go_wp2_with fail;(try simp only [Exit.inBlock,Exit.then])
      refine bodyPost_ret (v:= .tuple #[.slice none 0 0,.int .i64 (er:Int),.int .i64 (pa:Int)]) (by simp [results,Tryz.results10,go_sem]) rfl ?_;exact ⟨.inr ⟨pre,⟨kd,pa,fi,tx,er⟩,HREST.out,he,rfl⟩,HB3.out⟩
  · have hi1:¬ (q:Int)<(s.size:Int):=by omega
    have hend:=HS.out.rest.trans (by rw [sc_end (f:=l.length) (op:=op) (p:=q) (by rw [HL.out];exact hlt)]);obtain ⟨so2,sc2,rfl⟩:=own_shapeT HS.out.cut.row;have c1:=HS.out.cut.box.c1;have hopl:=HS.out.opl;by_cases ho:op=[]
    · rw [if_pos ho,List.append_nil] at hend;subst ho;have HEND:=hQz hend;have c1:wr.cell? ⟨w.heap.size,1,none⟩=some (.slice so2 0 sc2):=c1
      have HFIN:Hid (ScR l w wr (.returned (.tuple #[.slice so n sc,.int .i64 0,.int .i64 0]))):=by
       refine ⟨.inl ⟨by rw [hend];exact HS.out.ok,so,sc,?_,?_⟩,HS.out.below⟩
       · rw [hend,HS.out.len]
       · rw [hend,HS.out.len];exact HS.out.own
      clear hend;go_wp2_with fail;(try simp only [Exit.inBlock,Exit.then])
      refine bodyPost_ret (v:= .tuple #[.slice so n sc,.int .i64 0,.int .i64 0]) (by simp [results,Tryz.results10,go_sem]) rfl ?_;exact HFIN.out
    · rw [if_neg ho] at hend;have hpos:=List.length_pos_iff.2 ho;generalize op.length=m at *;have hm1:(0:Int)<(m:Int):=by omega
      have HFIN:Hid (ScR l w wr (.returned (.tuple #[.slice none 0 0,.int .i64 21,.int .i64 (s.size:Int)]))):=by
       refine ⟨.inr ⟨pre,_,hend,by show (21:Nat)≠0;decide,?_⟩,HS.out.below⟩;show _=Ending.returned (.tuple #[.slice none 0 0,.int .i64 ((21:Nat):Int),.int .i64 ((l.length:Nat):Int)]);rw [HL.out];rfl
      clear hend HS;go_wp2_with fail;(try simp only [Exit.inBlock,Exit.then])
      refine bodyPost_ret (v:= .tuple #[.slice none 0 0,.int .i64 21,.int .i64 (s.size:Int)]) (by simp [results,Tryz.results10,go_sem]) rfl ?_;exact HFIN.out
theorem scF_len {l:List UInt8}:∀ (f p:Nat) (op:List Nat),p≤l.length→(scF l f p op).length≤l.length-p+1:=by
 intro f
 induction f with
 | zero=>intro p op _;exact Nat.zero_le _
 | succ f ih=>
  intro p op hp;rw [scF];by_cases h1:p<l.length
  · rw [if_pos h1];by_cases h2:(tokW l op p).err=0
    · rw [if_pos h2];obtain ⟨u1,u2,u3⟩:=q2y h1 h2;have hi:=q0Y u3;have:=ih _ (q15 (tokW l op p) op) hi.2;rw [List.length_cons];omega
    · rw [if_neg h2];simp
  · rw [if_neg h1]
    split
    · exact Nat.zero_le _
    · simp
theorem scW_len (l:List UInt8):(scW l).length≤l.length+1:=by
 have hi:=q0Y (l:=l) (p:=0) (Nat.zero_le _);have:=scF_len (l.length+1) (idW l 0) [] hi.2;unfold scW;omega
end Go.Proofs.YtbpopnafcpfifaaGreatDoor
namespace Go.Proofs.YtbpopnafcpfifaaGreatDoor
open Go.RowKit
theorem q1W {A x u:List UInt8} {p j:Nat} (hA:A.drop p=x++u) (hj:j<x.length):A.getD (p+j) 0=x.getD j 0:=by rw [← q1L,hA,q2m hj]
theorem gd_behind {A x r:List UInt8} {c:UInt8} {p:Nat} (hA:A.drop p=x++c::r):A.getD (p+x.length) 0=c:=by rw [← q1L,hA,gd_at]
theorem q1a {A x u:List UInt8} {p:Nat} (hA:A.drop p=x++u) (hx:x++u≠[]):p+x.length+u.length=A.length:=by
 have h:=congrArg List.length hA;rw [List.length_drop,List.length_append] at h;have:0<(x++u).length:=List.length_pos_iff.2 hx;rw [List.length_append] at this;omega
theorem run_all {P:UInt8→Bool} {A x r:List UInt8} {c:UInt8} {p:Nat} (hA:A.drop p=x++c::r) (hx:∀ j,j<x.length→P (x.getD j 0)=true) (hc:P c=false):bhP P A p=p+x.length:=by
 have hl:=q1a hA (by simp);simp at hl
 have hs:∀ k,k≤x.length→bhP P A p=bhP P A (p+k):=by
  intro k
  induction k with
  | zero=>intro _;rfl
  | succ k ih=>
   intro hk;rw [ih (by omega),q0L (by omega) (by rw [q1W hA (by omega)];exact hx k (by omega))];rfl
 rw [hs x.length (Nat.le_refl _),q0H (by omega) (by rw [gd_behind hA];exact hc)]
theorem run_in {P:UInt8→Bool} {A x u:List UInt8} {p:Nat} (hA:A.drop p=x++u) (hp:p≤A.length) (h:bhP P A p=p+x.length):∀ j,j<x.length→P (x.getD j 0)=true:=fun j hj=>by
 rw [← q1W hA hj];exact bhP_in _ p (p+j) (Nat.le_refl _) hp (by omega) (by omega)
theorem cut_app {A x u:List UInt8} {p:Nat} (hA:A.drop p=x++u):cut A p (p+x.length)=x:=by
 unfold cut;rw [hA,show p+x.length-p=x.length by omega,List.take_left]
theorem escL_loc {A A' y u u':List UInt8} {k k' n d:Nat} (hA:A.drop k=y++u) (hA':A'.drop k'=y++u') (h:escL A k=(n,k+d,0)) (hd:d≤y.length):escL A' k'=(n,k'+d,0):=by
 unfold escL at h ⊢;rw [hA] at h;rw [hA']
 cases h1:q0w (y++u) with
 | some r=>
  rw [h1] at h;have e:=Prod.mk.inj h;have e2:=(Prod.mk.inj e.2).1;have hd2:d=2:=by omega
  subst hd2;rw [q17 hd] at h1;rw [q17 hd,h1];dsimp only at e ⊢;rw [e.1]
 | none=>
  rw [h1] at h
  cases h2:numL (y++u) with
  | none=>rw [h2] at h;have e:=Prod.mk.inj h;exact absurd (Prod.mk.inj e.2).2 (by decide)
  | some m=>
   rw [h2] at h;dsimp only at h;by_cases h3:m<55296∨57344≤m
   · rw [if_pos h3] at h;have e:=Prod.mk.inj h;have e2:=(Prod.mk.inj e.2).1;have hd2:d=6:=by omega
     subst hd2;rw [q17 (by omega)] at h1;rw [q1i hd] at h2;rw [q17 (by omega),h1,q1i hd,h2];dsimp only;rw [if_pos h3,e.1]
   · rw [if_neg h3] at h;have e6:A.drop (k+6)=(y++u).drop 6:=by rw [← List.drop_drop,hA]
     have e6':A'.drop (k'+6)=(y++u').drop 6:=by rw [← List.drop_drop,hA']
     rw [e6] at h;rw [e6']
     cases h4:numL ((y++u).drop 6) with
     | none=>rw [h4] at h;have e:=Prod.mk.inj h;exact absurd (Prod.mk.inj e.2).2 (by decide)
     | some m2=>
      rw [h4] at h;dsimp only at h;by_cases h5:m<56320∧56320≤m2∧m2<57344
      · rw [if_pos h5] at h;have e:=Prod.mk.inj h;have e2:=(Prod.mk.inj e.2).1;have hd2:d=12:=by omega
        subst hd2;rw [List.drop_append_of_le_length (by omega)] at h4;have hy6:6≤(y.drop 6).length:=by rw [List.length_drop];omega
        rw [q1i hy6] at h4;rw [q17 (by omega)] at h1;rw [q1i (by omega)] at h2;rw [q17 (by omega),h1,q1i (by omega),h2];dsimp only;rw [if_neg h3,List.drop_append_of_le_length (by omega),q1i hy6,h4];dsimp only;rw [if_pos h5,e.1]
      · rw [if_neg h5] at h;have e:=Prod.mk.inj h;exact absurd (Prod.mk.inj e.2).2 (by decide)
theorem dec_loc {y u u':List UInt8} (hy:y≠[]) (hs:q0p (y++u)=false) (hd:(decL (y++u)).2≤y.length):decL (y++u')=decL (y++u)∧q0p (y++u')=false:=by
 have hne:∀ v,y++v≠[]:=fun v e=>hy (List.append_eq_nil_iff.1 e).1;rcases q1Z (y++u) (hne u) with ⟨n,post,hr,h,_⟩|⟨_,h⟩
 · have e1:decL (y++u)=(n,(enc n).length):=by rw [h];exact q1m n hr post
   rw [e1] at hd
   have hy':y=enc n++y.drop (enc n).length:=by
    have h1:(y++u).take (enc n).length=enc n:=by rw [h];exact List.take_left
    rw [List.take_append_of_le_length hd] at h1;have h2:=List.take_append_drop (enc n).length y;rw [h1] at h2;exact h2.symm
   have e2:y++u'=enc n++(y.drop (enc n).length++u'):=by rw [← List.append_assoc,← hy']
   have e3:decL (y++u')=(n,(enc n).length):=by rw [e2];exact q1m n hr _
   refine ⟨e3.trans e1.symm,?_⟩;rcases q1Z (y++u') (hne u') with ⟨_,_,_,_,hs'⟩|⟨hd',hs'⟩
   · exact hs'
   · exfalso;rw [hd'] at e3;have hn:n=65533:=(Prod.mk.inj e3).1.symm;have hl:(enc n).length=1:=(Prod.mk.inj e3).2.symm;rw [hn,q2c] at hl;exact absurd hl (by decide)
 · rw [h] at hs;cases hs
theorem rpc_gt {A:List UInt8}:∀ (f i:Nat) (acc r:List Nat) (e:Nat) (wh:Bool),A.length-i<f→rpc A f i acc=(r,e,wh,0)→i<e:=by
 intro f
 induction f with
 | zero=>intro i acc r e wh h;omega
 | succ f ih=>
  intro i acc r e wh hf h;rw [rpc] at h;by_cases h1:i<A.length
  · rw [if_pos h1] at h;by_cases h2:(A.getD i 0).toNat=34
    · rw [if_pos h2] at h;have:=(Prod.mk.inj (Prod.mk.inj h).2).1;omega
    rw [if_neg h2] at h;by_cases h3:inwB A i=true
    · rw [if_pos h3] at h;have:=(Prod.mk.inj (Prod.mk.inj h).2).1;omega
    rw [if_neg h3] at h;by_cases h4:(A.getD i 0).toNat=92
    · rw [if_pos h4] at h;by_cases h5:(escL A i).2.2=0
      · rw [if_pos h5] at h;obtain ⟨g1,g2,_⟩:=q2r h5;have:=ih _ _ _ _ _ (by omega) h;omega
      · rw [if_neg h5] at h;exact absurd (Prod.mk.inj (Prod.mk.inj (Prod.mk.inj h).2).2).2 h5
    rw [if_neg h4] at h;by_cases h5:(A.getD i 0).toNat<32
    · rw [if_pos h5] at h;exact absurd (Prod.mk.inj (Prod.mk.inj (Prod.mk.inj h).2).2).2 (by decide)
    rw [if_neg h5] at h;by_cases h6:q0p (A.drop i)=true
    · rw [if_pos h6] at h;exact absurd (Prod.mk.inj (Prod.mk.inj (Prod.mk.inj h).2).2).2 (by decide)
    rw [if_neg h6] at h;have hd:=q1d (A.drop i);have:=ih _ _ _ _ _ (by omega) h;omega
  · rw [if_neg h1] at h;exact absurd (Prod.mk.inj (Prod.mk.inj (Prod.mk.inj h).2).2).2 (by decide)
theorem rpc_loc {A A' x u u':List UInt8} {p p':Nat} (hA:A.drop p=x++u) (hA':A'.drop p'=x++u') (hx:x≠[]):∀ (f j:Nat) (acc r:List Nat) (wh:Bool),j≤x.length→A.length-(p+j)<f→rpc A f (p+j) acc=(r,p+x.length,wh,0)→∀ g,A'.length-(p'+j)<g→rpc A' g (p'+j) acc=(r,p'+x.length,wh,0):=by
 have hl:=q1a hA (by intro e;exact hx (List.append_eq_nil_iff.1 e).1);have hl':=q1a hA' (by intro e;exact hx (List.append_eq_nil_iff.1 e).1);intro f
 induction f with
 | zero=>intro j acc r wh _ h;omega
 | succ f ih=>
  intro j acc r wh hj hf h g hg;have hgt:=rpc_gt _ _ _ _ _ _ hf h;have hjx:j<x.length:=by omega
  have hb:A'.getD (p'+j) 0=A.getD (p+j) 0:=by rw [q1W hA hjx,q1W hA' hjx]
  have hdA:A.drop (p+j)=x.drop j++u:=by rw [← List.drop_drop,hA,List.drop_append_of_le_length hj]
  have hdA':A'.drop (p'+j)=x.drop j++u':=by rw [← List.drop_drop,hA',List.drop_append_of_le_length hj]
  have hyl:(x.drop j).length=x.length-j:=List.length_drop;obtain ⟨g,rfl⟩:∃ g',g=g'+1:=⟨g-1,by omega⟩;rw [rpc] at h ⊢;rw [if_pos (by omega)] at h;rw [if_pos (by omega),hb]
  have hinw:2≤x.length-j→inwB A' (p'+j)=inwB A (p+j):=fun h2=>by
   have hy:∀ v,Lib.hasPrefix (x.drop j++v) [92,40]=Lib.hasPrefix (x.drop j) [92,40]:=fun v=>by
    unfold Lib.hasPrefix
    match hxj:x.drop j with
    | []=>rw [hxj] at hyl;simp at hyl;omega
    | [a]=>rw [hxj] at hyl;simp at hyl;omega
    | a::b::r=>simp [List.isPrefixOf]
   unfold inwB;rw [hdA,hdA',hy,hy]
  by_cases h2:(A.getD (p+j) 0).toNat=34
  · rw [if_pos h2] at h ⊢;obtain ⟨e1,e2⟩:=Prod.mk.inj h;obtain ⟨e3,e4⟩:=Prod.mk.inj e2;rw [← e1,← (Prod.mk.inj e4).1,show p'+j+1=p'+x.length by omega]
  rw [if_neg h2] at h ⊢;by_cases h3:inwB A (p+j)=true
  · rw [if_pos h3] at h;obtain ⟨e1,e2⟩:=Prod.mk.inj h;obtain ⟨e3,e4⟩:=Prod.mk.inj e2;rw [if_pos (by rw [hinw (by omega)];exact h3),← e1,← (Prod.mk.inj e4).1,show p'+j+2=p'+x.length by omega]
  rw [if_neg h3] at h;by_cases h4:(A.getD (p+j) 0).toNat=92
  · rw [if_pos h4] at h;by_cases h5:(escL A (p+j)).2.2=0
    · rw [if_pos h5] at h;obtain ⟨g1,g2,_⟩:=q2r h5;have hgt2:=rpc_gt _ _ _ _ _ _ (by omega) h;obtain ⟨d,hd⟩:∃ d,(escL A (p+j)).2.1=p+j+d:=⟨(escL A (p+j)).2.1-(p+j),by omega⟩;have he:escL A (p+j)=((escL A (p+j)).1,p+j+d,0):=by rw [← hd,← h5]
      have he':=escL_loc hdA hdA' he (by omega)
      have hd2:2≤d:=by
       have:=he;unfold escL at this
       cases hs:q0w (A.drop (p+j)) with
       | some r=>rw [hs] at this;have e2:=(Prod.mk.inj (Prod.mk.inj this).2).1;omega
       | none=>
        rw [hs] at this
        cases hn:numL (A.drop (p+j)) with
        | none=>rw [hn] at this;exact absurd (Prod.mk.inj (Prod.mk.inj this).2).2 (by decide)
        | some m=>
         rw [hn] at this;dsimp only at this;by_cases h7:m<55296∨57344≤m
         · rw [if_pos h7] at this;have e2:=(Prod.mk.inj (Prod.mk.inj this).2).1;omega
         · rw [if_neg h7] at this
           cases hn2:numL (A.drop (p+j+6)) with
           | none=>rw [hn2] at this;exact absurd (Prod.mk.inj (Prod.mk.inj this).2).2 (by decide)
           | some m2=>
            rw [hn2] at this;dsimp only at this
            split at this
            · have e2:=(Prod.mk.inj (Prod.mk.inj this).2).1;omega
            · exact absurd (Prod.mk.inj (Prod.mk.inj this).2).2 (by decide)
      rw [if_neg (by rw [hinw (by omega)];exact h3),if_pos h4,he'];dsimp only;rw [if_pos rfl,show p'+j+d=p'+(j+d) by omega];rw [hd,show p+j+d=p+(j+d) by omega] at h;exact ih (j+d) _ _ _ (by omega) (by omega) h g (by omega)
    · rw [if_neg h5] at h;exact absurd (Prod.mk.inj (Prod.mk.inj (Prod.mk.inj h).2).2).2 h5
  rw [if_neg h4] at h
  have hin':inwB A' (p'+j)=false:=by
   cases hw:inwB A' (p'+j) with
   | false=>rfl
   | true=>
    obtain ⟨q,hq⟩:=q2o.1 hw;rw [q0M (by omega),hb] at hq;have:=(List.cons.inj hq).1;rw [this] at h4;exact absurd rfl h4
  rw [if_neg (by rw [hin'];decide),if_neg h4];by_cases h5:(A.getD (p+j) 0).toNat<32
  · rw [if_pos h5] at h;exact absurd (Prod.mk.inj (Prod.mk.inj (Prod.mk.inj h).2).2).2 (by decide)
  rw [if_neg h5] at h ⊢;by_cases h6:q0p (A.drop (p+j))=true
  · rw [if_pos h6] at h;exact absurd (Prod.mk.inj (Prod.mk.inj (Prod.mk.inj h).2).2).2 (by decide)
  rw [if_neg h6] at h;have h6':q0p (x.drop j++u)=false:=by rw [← hdA];cases hs:q0p (A.drop (p+j)) with|false=>rfl|true=>exact absurd hs h6
  have hd:=q1d (A.drop (p+j));have hgt2:=rpc_gt _ _ _ _ _ _ (by omega) h;have hyne:x.drop j≠[]:=fun e=>by rw [e] at hyl;simp at hyl;omega
  have hdl:=dec_loc (u':=u') hyne h6' (by rw [← hdA,hyl];omega);rw [← hdA,← hdA'] at hdl;rw [if_neg (by rw [hdl.2];decide),hdl.1,Nat.add_assoc];rw [Nat.add_assoc] at h;exact ih _ _ _ _ (by omega) (by omega) h g (by omega)
theorem name_x {A y u:List UInt8} {q:Nat} (hA:A.drop q=y++u) (hn:q0e A q≠[]) (hl:(q0e A q).length=y.length):q0e A q=y:=by
 unfold q0e at hn hl ⊢
 split at hl
 · next hh=>
   rw [if_pos hh];have hb:=q0R inB (l:=A) (p:=q) (by omega);rw [q1P hb.2] at hl;rw [show bhP inB A q=q+y.length by omega];exact cut_app hA
 · next hh=>rw [if_neg hh] at hn;exact absurd rfl hn
theorem piece_all {A A' x u u':List UInt8} {p p' a b:Nat} (hA:A.drop p=x++u) (hA':A'.drop p'=x++u') (hx:x≠[]) (hp:p<A.length) (h:(q2b A p a b).err=0) (hf:(q2b A p a b).fin=p+x.length):
 q2b A' p' a b=⟨(q2b A p a b).kind,p',p'+x.length,(q2b A p a b).text,0⟩:=by
 have hpos:=List.length_pos_iff.2 hx;have hl':=q1a hA' (by intro e;exact hx (List.append_eq_nil_iff.1 e).1);have hl:=rpc_loc hA hA' hx (A.length+1) 1 [];unfold q2b at h hf ⊢;generalize rpc A (A.length+1) (p+1) []=R at *;obtain ⟨r,e,wh,c⟩:=R;dsimp only at h hf ⊢;by_cases hc:c=0
 · subst hc;rw [if_pos rfl] at hf ⊢;have he:e=p+x.length:=by cases wh <;> exact hf
   subst he;have hl2:=hl r wh (by omega) (by omega) rfl (A'.length+1) (by omega);rw [hl2];dsimp only;rw [if_pos rfl]
   cases wh <;> rfl
 · rw [if_neg hc] at h;exact absurd h hc
theorem tok_first {l:List UInt8} {op:List Nat} {p:Nat} (hp:p<l.length) (he:(tokW l op p).err=0):blB (l.getD p 0)=false∧(l.getD p 0).toNat≠35:=by
 have key:(l.getD p 0).toNat=32∨(l.getD p 0).toNat=9∨(l.getD p 0).toNat=10∨(l.getD p 0).toNat=13∨(l.getD p 0).toNat=35→False:=fun h=>by
  have hno:∀ x∈mkL,x.head? ≠some 32∧x.head? ≠some 9∧x.head? ≠some 10∧x.head? ≠some 13∧x.head? ≠some 35:=by decide
  have hf:∀ k,mkB ((l.drop p).take (k+1))=false:=fun k=>by
   cases hb:mkB ((l.drop p).take (k+1)) with
   | false=>rfl
   | true=>
    have hm:=List.contains_iff_mem.1 hb;have hn:=hno _ hm;rw [q0M hp] at hn;have eq5:∀ c:UInt8,c.toNat=(l.getD p 0).toNat→l.getD p 0=c:=fun c hc=>by apply UInt8.toNat_inj.1;exact hc.symm
    rcases h with h|h|h|h|h
    · exact absurd (by rw [eq5 32 (by rw [h];rfl)];rfl) hn.1
    · exact absurd (by rw [eq5 9 (by rw [h];rfl)];rfl) hn.2.1
    · exact absurd (by rw [eq5 10 (by rw [h];rfl)];rfl) hn.2.2.1
    · exact absurd (by rw [eq5 13 (by rw [h];rfl)];rfl) hn.2.2.2.1
    · exact absurd (by rw [eq5 35 (by rw [h];rfl)];rfl) hn.2.2.2.2
  have hmk:mkW l p=[]:=by
   unfold mkW;rw [if_neg (by rw [hf 2];decide),if_neg (by rw [hf 1];decide),if_neg (by rw [hf 0];decide)]
  have h1:leB (l.getD p 0)=false:=by unfold leB;exact decide_eq_false (by omega)
  have h4:dgB (l.getD p 0)=false:=by unfold dgB;exact decide_eq_false (by omega)
  unfold tokW at he;rw [if_neg (by rw [h1];decide),if_neg (by omega),if_neg (by omega),if_neg (by rw [h4];decide),if_neg (by omega),if_neg (by omega)] at he;unfold q1F at he;rw [if_pos hmk] at he
  cases he
 constructor
 · unfold blB;exact decide_eq_false (fun h=>key (by omega))
 · exact fun h=>key (by omega)
end Go.Proofs.YtbpopnafcpfifaaGreatDoor
