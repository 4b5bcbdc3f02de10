import Derived.Test.YtdjleoglphgdgaaGreatDoorM34
import Derived.Test.YtdjleoglphgdgaaGreatDoorM20
import Derived.Test.YtdjleoglphgdgaaGreatDoorM47
import Derived.Test.YtdjleoglphgdgaaGreatDoorM33
import Derived.Deep.Cut
set_option linter.unusedVariables false
set_option linter.unusedSimpArgs false
namespace Go.Proofs.YtdjleoglphgdgaaGreatDoor
open Go.RowKit Go.Shelf
attribute [local go_sem] Oper.semAt_some
theorem enc_le4X (n:Nat):(enc n).length≤4:=by
 unfold enc
 repeat' split
 all_goals simp
theorem txt_leX (zs:List Nat):(txt zs).length≤4*zs.length:=by
 induction zs with
 | nil=>exact Nat.le_refl _
 | cons z zs ih=>
  have:=enc_le4X z;unfold txt at ih ⊢;rw [List.flatMap_cons,List.length_append,List.length_cons];omega
theorem unqX_len (l:List UInt8):∀ (n p:Nat) (acc:List Nat),l.length-p≤n→p≤l.length→(unqL l p acc).1.length≤acc.length+(l.length-p):=by
 intro n
 induction n with
 | zero=>
  intro p acc hn hp;rw [q1Q acc (by omega)];exact Nat.zero_le _
 | succ n ih=>
  intro p acc hn hp;by_cases hlt:p<l.length
  · rw [unqL,dif_pos hlt]
    split
    · show acc.length≤_;omega
    · split
      · exact Nat.zero_le _
      · split
        · exact Nat.zero_le _
        · split
          · split
            · next h5=>
              obtain ⟨e1,e2,_⟩:=escL_ok h5;rw [if_pos e1];have:=ih (escL l p).2.1 (acc++[(escL l p).1]) (by omega) e2;rw [List.length_append,List.length_singleton] at this;omega
            · exact Nat.zero_le _
          · have hz:=q1D (l.drop p);have hst:=decL_le (l.drop p) (fun e=>by have:=congrArg List.length e;rw [List.length_drop] at this;simp at this;omega);rw [List.length_drop] at hst;rw [if_pos (by omega)];have:=ih (p+(decL (l.drop p)).2) (acc++[(decL (l.drop p)).1]) (by omega) (by omega);rw [List.length_append,List.length_singleton] at this;omega
  · rw [q1Q acc hlt];exact Nat.zero_le _
theorem cut_leX (l:List UInt8) (a b:Nat):(cut l a b).length≤l.length:=by
 unfold cut;rw [List.length_take,List.length_drop];omega
theorem name_leX (l:List UInt8) (p:Nat):(q0A l p).length≤l.length:=by
 unfold q0A
 split
 · exact cut_leX _ _ _
 · exact Nat.zero_le _
theorem piece_leX (l:List UInt8) (p a b:Nat):(q1g l p a b).text.length≤4*(l.length+2):=by
 have h:(txt (pcU l p).1).length≤4*(l.length+2):=by
  have h1:=txt_leX (pcU l p).1
  have h2:(pcU l p).1.length≤l.length+2:=by
   unfold pcU
   have h3:(litW (cut l (p+1) (peW l (p+1))) (decide (peW l (p+1)<l.length))).length≤l.length+2∧1≤(litW (cut l (p+1) (peW l (p+1))) (decide (peW l (p+1)<l.length))).length:=by
    have:=cut_leX l (p+1) (peW l (p+1));unfold litW;rw [List.length_cons,List.length_append]
    split
    · rw [List.length_singleton];omega
    · rw [List.length_nil];omega
   have:=unqX_len (litW (cut l (p+1) (peW l (p+1))) (decide (peW l (p+1)<l.length))) _ 1 [] (Nat.le_refl _) h3.2;rw [List.length_nil] at this;omega
  omega
 unfold q1g
 split
 · split
   · exact h
   · exact h
 · exact Nat.zero_le _
theorem tok_leX (l:List UInt8) (op:List Nat) (p:Nat):(tokW l op p).text.length≤4*(l.length+2):=by
 unfold tokW
 split
 · have:=name_leX l p;show (q0A l p).length≤_;omega
 split
 · have:=name_leX l (p+1);unfold varT
   split
   · show (q0A l (p+1)).length≤_;omega
   · exact Nat.zero_le _
 split
 · have:=name_leX l (p+1);show (q0A l (p+1)).length≤_;omega
 split
 · unfold numT16
   split
   · have:=cut_leX l p (bhP nuB l p);show (cut l p (bhP nuB l p)).length≤_;omega
   · exact Nat.zero_le _
 split
 · exact piece_leX l p 6 7
 split
 · exact piece_leX l p 9 8
 · unfold markT
   split
   · exact Nat.zero_le _
   · have:=mkW_len l p;show (mkW l p).length≤_;omega
theorem sc_boundX (l:List UInt8):∀ (f p:Nat) (op:List Nat),p≤l.length→(∀ t∈scF l f p op,t.err=0)→(scF l f p op).length≤l.length-p∧∀ t∈scF l f p op,t.text.length≤4*(l.length+2)∧t.at_≤l.length
 | 0,p,op,_,_=>⟨Nat.zero_le _,fun t ht=>by cases ht⟩
 | f+1,p,op,hp,h=>by
  by_cases h1:p<l.length
  · by_cases h2:(tokW l op p).err=0
    · rw [scF,if_pos h1,if_pos h2] at h ⊢;obtain ⟨e1,e2,e3⟩:=tok_up h1 h2;have h3:=idW_ge e3;obtain ⟨i1,i2⟩:=sc_boundX l f (idW l (tokW l op p).fin) (q2a (tokW l op p) op) h3.2 (fun t ht=>h t (List.mem_cons_of_mem _ ht));refine ⟨by rw [List.length_cons];omega,fun t ht=> ?_⟩;rcases List.mem_cons.1 ht with rfl|ht
      · exact ⟨tok_leX l op p,by omega⟩
      · exact i2 t ht
    · rw [scF,if_pos h1,if_neg h2] at h;exact absurd (h _ mcS) h2
  · rw [scF,if_neg h1] at h ⊢;by_cases h2:op=[]
    · rw [if_pos h2];exact ⟨Nat.zero_le _,fun t ht=>by cases ht⟩
    · rw [if_neg h2] at h;exact absurd (h _ mcS) (show ¬ (21=0) by decide)
theorem hr_bound {ws:List Tok} {a b:Nat} (h:∀ t∈ws,t.text.length≤a∧t.at_≤b) (t:Nat):(hrP ws t).text.length≤a∧(hrP ws t).at_≤b:=by
 unfold hrP;by_cases ht:t<ws.length
 · rw [List.getD,List.getElem?_eq_getElem ht];exact h _ (List.getElem_mem ht)
 · rw [List.getD,List.getElem?_eq_none (by omega)];exact ⟨Nat.zero_le _,Nat.zero_le _⟩
theorem allX {B:Nat} {so:Option Addr} {sc:Nat} {ws:List Tok} {nb:Nat} (htx:∀ t,(hrP ws t).text.length≤140737488355000) (hnx:∀ t,(hrP ws t).at_≤1099511627776):q1X B so sc ws nb 45 0 (q07 (poP ws nb (ws.length+1)).1 (endP ws nb)):=by
 have h:=po_all (B:=B) (so:=so) (sc:=sc) (ws:=ws) (nb:=nb) htx hnx (fun m P O h=>postX h) (ws.length+1);rw [Nat.sub_self] at h;exact wholeX h.pipe
def PrWait (l:List UInt8) (w:World) (so:Option Addr) (sc:Nat):Prop:=(∀ t∈scW l,t.err=0)∧TRow w so (scW l)∧(scW l).length≤sc∧∀ g off,so=some ⟨g,off,none⟩→g<w.heap.size
def PrW (s:List UInt8) (lo:Nat) (w':World) (d:NV) (er q:Nat):Prop:=
 ((∀ t∈scW s,t.err=0)∧PsE (wholeP (scW s) s.length) lo w' d er q)∨(∃ pre x,scW s=pre++[x]∧x.err≠0∧d=nv0∧er=x.err∧q=x.at_)
theorem PrW.keep {s:List UInt8} {lo lo':Nat} {w w':World} {d:NV} {er q:Nat} (h:PrW s lo w d er q) (hz:w.heap.size≤w'.heap.size) (hb:∀ b,lo≤b→b<w.heap.size→w'.heap[b]? =w.heap[b]?) (hlo:lo'≤lo):PrW s lo' w' d er q:=by
 rcases h with ⟨h1,h2⟩|h
 · refine .inl ⟨h1,?_⟩;unfold PsE at h2 ⊢
   cases hR:wholeP (scW s) s.length with
   | ok T t o=>
    rw [hR] at h2;exact ⟨h2.1.keep hz hb (fun b h _=>Nat.le_trans hlo h),h2.2⟩
   | bad e q=>
    rw [hR] at h2;exact h2
 · exact .inr h
theorem own_ltX {w:World} {base:Nat} {t:TypeId} {size n:Nat} {so:Option Addr} {sc:Nat} {xs:List Value} (h:w.ownsRow base t size (.slice so n sc) n xs):∀ g off,so=some ⟨g,off,none⟩→g<w.heap.size:=by
 intro g off e;rcases h.2 with ⟨h1,_⟩|⟨g2,c2,cur,h1,h2,h3,_⟩
 · simp only [Value.slice.injEq] at h1;rw [h1.1] at e
   cases e
 · simp only [Value.slice.injEq] at h1;rw [h1.1] at e;simp only [Option.some.injEq,Addr.mk.injEq] at e;rw [← e.1];exact (Array.getElem?_eq_some_iff.1 h3).1
set_option maxRecDepth 100000 in
set_option maxHeartbeats 3200000 in
theorem parseX (s:ByteArray) (hs:s.size≤16777216) (w:World) (hE:ErrIn w) (hO:OpsX w):
 Calls Tryz.prog 12 #[.string s] w fun e w'=>∃ (d:NV) (er q:Nat),e= .returned (.tuple #[d.v,.int .i64 (er:Int),.int .i64 (q:Int)])∧Below w.heap.size w w'∧PrW s.data.toList w.heap.size w' d er q:=by
 obtain ⟨l,hl⟩:∃ l,s.data.toList=l:=⟨_,rfl⟩;have hln:l.length=s.size:=by rw [← hl,Array.length_toList];rfl
 have HSc:Hid (∀ u,ErrIn u→Calls Tryz.prog 28 #[.string s] u fun e w'=>ScR l u w' e):=fun u hu=>by
  rw [← hl];exact w_wScan s u hs hu
 have HE:Hid (ErrIn (w.alloc (.cells #[.int .i64 0,.int .i64 0,.string ⟨#[]⟩,.int .i64 0,.string ⟨#[]⟩,.string ⟨#[]⟩,.slice none 0 0,.slice none 0 0,.slice none 0 0,.slice none 0 0] 28))):=hE.keep (q0a w _);have HO1:Hid (OpsX (w.alloc (.cells #[.int .i64 0,.int .i64 0,.string ⟨#[]⟩,.int .i64 0,.string ⟨#[]⟩,.string ⟨#[]⟩,.slice none 0 0,.slice none 0 0,.slice none 0 0,.slice none 0 0] 28))):=hO.keep (q0a w _);rw [hl]
 have HC:Hid (∀ u so sc,(∀ t∈scW l,t.err=0)→TRow u so (scW l)→(scW l).length≤sc→(∀ g off,so=some ⟨g,off,none⟩→g<u.heap.size)→OpsX u→Calls Tryz.prog 29 #[.agg #[.slice so (scW l).length sc,.int .i64 0,.int .i64 (s.size:Int),.int .i64 0]] u fun e w'=>∃ (d:NV) (er q:Nat),e= .returned (.tuple #[d.v,.agg #[.int .i64 (er:Int),.int .i64 (q:Int)]])∧Below u.heap.size u w'∧PrW l u.heap.size w' d er q):=fun u so sc h0 hr hc ha hO=>by
  have hb:=sc_boundX l (l.length+1) (idW l 0) [] (idW_ge (Nat.zero_le _)).2 h0;have hh:=hr_bound hb.2;have hlen:(scW l).length≤16777216:=Nat.le_trans hb.1 (by omega);refine (caughtX u hr hc hlen ha hO (allX (ws:=scW l) (nb:=s.size) (fun t=>by have:=(hh t).1;show (hrP (scF l (l.length+1) (idW l 0) []) t).text.length≤_;omega) (fun t=>by have:=(hh t).2;show (hrP (scF l (l.length+1) (idW l 0) []) t).at_≤_;omega))).mono ?_;rintro e w' ⟨d,er,q,he,hb,hp⟩;refine ⟨d,er,q,he,hb,.inl ⟨h0,?_⟩⟩;rw [hln];exact hp
 have Hs:=hQz hs;have Hln:=hQz hln;clear hs hE hO hl hln;go_in;go_wp2_with fail;refine (HSc.out _ HE.out).mono ?_;rintro e w1 ⟨hsc,hb1⟩;have hb1':Below (w.heap.size+1) (w.alloc (.cells #[.int .i64 0,.int .i64 0,.string ⟨#[]⟩,.int .i64 0,.string ⟨#[]⟩,.string ⟨#[]⟩,.slice none 0 0,.slice none 0 0,.slice none 0 0,.slice none 0 0] 28)) w1:=by simpa using hb1
 have r1:=(hb1'.block w.heap.size (by omega)).trans (heap_alloc_new w _);have HO2:=hQz (HO1.out.keep hb1);have HB1:Hid (Below w.heap.size w w1):=(q0a w _).trans (hb1'.mono (by omega));have s1:w.heap.size<w1.heap.size:=by have:=hb1'.size;simp at this;omega
 have HR1:=hQz r1;clear hb1 hb1' r1;rcases hsc with ⟨h0,so,sc,rfl,ho⟩|⟨pre,x,he,hx,rfl⟩
 · have HW1:Hid (PrWait l w1 so sc):=⟨h0,(trow_own ho.out).1,(trow_own ho.out).2,own_ltX ho.out⟩;clear ho h0;go_wp2_with fail;refine (HC.out _ so sc HW1.out.1 HW1.out.2.1 HW1.out.2.2.1 HW1.out.2.2.2 HO2.out).mono ?_;rintro e w2 ⟨d,er,q,rfl,hb2,hk2⟩;obtain ⟨op1,at1,vk1,tx1,nu1,vt1,io1,yo1,no1,ko1,iN1,ic1,yN1,yc1,nN1,nc1,kN1,kc1⟩:=d;unfold NV.v NV.l;dsimp only;have HR2:=hQz ((hb2.block w.heap.size s1).trans HR1.out);have HB2:Hid (Below w.heap.size w w2):=HB1.out.trans (hb2.mono (by omega));have s2:w.heap.size<w2.heap.size:=Nat.lt_of_lt_of_le s1 hb2.size;have HK2:=hQz hk2;have Hs1:=hQz s1;clear hb2 hk2 s1;go_upto_region 5 with fail;generalize hW4:(w2.alloc (.cells #[.int .i64 op1,.int .i64 at1,.string tx1,.int .i64 vk1,.string nu1,.string vt1,.slice io1 iN1 ic1,.slice yo1 yN1 yc1,.slice no1 nN1 nc1,.slice ko1 kN1 kc1] 28)).alloc (.cells #[.int .i64 (er:Int),.int .i64 (q:Int)] 60)=W4;have hn4:W4.heap[w2.heap.size]? =some (.cells #[.int .i64 op1,.int .i64 at1,.string tx1,.int .i64 vk1,.string nu1,.string vt1,.slice io1 iN1 ic1,.slice yo1 yN1 yc1,.slice no1 nN1 nc1,.slice ko1 kN1 kc1] 28 (0,0)):=by rw [← hW4];exact (Below.heap_alloc _ _ _ (by simp)).trans (heap_alloc_new w2 _)
   have hf4:W4.heap[w2.heap.size+1]? =some (.cells #[.int .i64 (er:Int),.int .i64 (q:Int)] 60 (0,0)):=by
    have:=heap_alloc_new (w2.alloc (.cells #[.int .i64 op1,.int .i64 at1,.string tx1,.int .i64 vk1,.string nu1,.string vt1,.slice io1 iN1 ic1,.slice yo1 yN1 yc1,.slice no1 nN1 nc1,.slice ko1 kN1 kc1] 28)) (.cells #[.int .i64 (er:Int),.int .i64 (q:Int)] 60);rw [World.size_alloc] at this;rw [← hW4];exact this
   have hb4:Below w2.heap.size w2 W4:=by rw [← hW4];exact (q0a w2 _).alloc (by simp) _
   have HR4:=hQz ((hb4.block w.heap.size s2).trans HR2.out);have HB4:Hid (Below w.heap.size w W4):=HB2.out.trans (hb4.mono (by omega));have HK4:Hid (PrW l w1.heap.size W4 ⟨op1,at1,vk1,tx1,nu1,vt1,io1,yo1,no1,ko1,iN1,ic1,yN1,yc1,nN1,nc1,kN1,kc1⟩ er q):=HK2.out.keep hb4.size (fun b _ hl=>hb4.block b hl) (Nat.le_refl _);obtain ⟨b0,b1,b2,b3,b4,b5,b6,b7,b8,b9⟩:=q00 hn4;obtain ⟨g0,g1,_⟩:=q2g hf4;obtain ⟨n0,n1,n2,n3,n4,n5,n6,n7,n8,n9⟩:=q00 HR4.out;obtain ⟨f0,f1,f2,f3,f4,f5,f6,f7,f8,f9⟩:=q03 HR4.out;clear hW4 hn4 hf4 hb4
   go_region
   all_goals
    go_wp2_with fail;generalize hzZ:((((((((((W4).setCell ⟨w.heap.size,0,none⟩ (.int .i64 op1)).setCell ⟨w.heap.size,1,none⟩ (.int .i64 at1)).setCell ⟨w.heap.size,2,none⟩ (.string tx1)).setCell ⟨w.heap.size,3,none⟩ (.int .i64 vk1)).setCell ⟨w.heap.size,4,none⟩ (.string nu1)).setCell ⟨w.heap.size,5,none⟩ (.string vt1)).setCell ⟨w.heap.size,6,none⟩ (.slice io1 iN1 ic1)).setCell ⟨w.heap.size,7,none⟩ (.slice yo1 yN1 yc1)).setCell ⟨w.heap.size,8,none⟩ (.slice no1 nN1 nc1)).setCell ⟨w.heap.size,9,none⟩ (.slice ko1 kN1 kc1)=WZ;have PZ:=q0J HR4.out hzZ;obtain ⟨m0,m1,m2,m3,m4,m5,m6,m7,m8,m9⟩:=q00 PZ.new;refine bodyPost_ret (v:= .tuple #[.agg #[.int .i64 op1,.int .i64 at1,.string tx1,.int .i64 vk1,.string nu1,.string vt1,.slice io1 iN1 ic1,.slice yo1 yN1 yc1,.slice no1 nN1 nc1,.slice ko1 kN1 kc1],.int .i64 (er:Int),.int .i64 (q:Int)]) (by simp [results,Tryz.results12,go_sem,m0,m1,m2,m3,m4,m5,m6,m7,m8,m9]) rfl ?_;exact ⟨⟨op1,at1,vk1,tx1,nu1,vt1,io1,yo1,no1,ko1,iN1,ic1,yN1,yc1,nN1,nc1,kN1,kc1⟩,er,q,rfl,(HB4.out.trans (PZ.below (Nat.le_refl _))).drew,HK4.out.keep (by show _≤WZ.heap.size;rw [PZ.size];exact Nat.le_refl _) (fun b hb _=>(show WZ.drew.heap[b]? =_ from PZ.rest b (by have:=Hs1.out;omega))) (by have:=Hs1.out;omega)⟩
 · have hx2:((x.err:Int)==0)=false:=by rw [bqZ];omega
   have hx3:((x.err:Int) != 0)=true:=by rw [bne_iff_ne];omega
   have HX:=hQz (And.intro he hx);obtain ⟨n0,n1,n2,n3,n4,n5,n6,n7,n8,n9⟩:=q00 HR1.out;obtain ⟨f0,f1,f2,f3,f4,f5,f6,f7,f8,f9⟩:=q03 HR1.out;clear he hx;go_wp2_with fail;generalize hzZ:((((((((((w1).setCell ⟨w.heap.size,0,none⟩ (.int .i64 0)).setCell ⟨w.heap.size,1,none⟩ (.int .i64 0)).setCell ⟨w.heap.size,2,none⟩ (.string ⟨#[]⟩)).setCell ⟨w.heap.size,3,none⟩ (.int .i64 0)).setCell ⟨w.heap.size,4,none⟩ (.string ⟨#[]⟩)).setCell ⟨w.heap.size,5,none⟩ (.string ⟨#[]⟩)).setCell ⟨w.heap.size,6,none⟩ (.slice none 0 0)).setCell ⟨w.heap.size,7,none⟩ (.slice none 0 0)).setCell ⟨w.heap.size,8,none⟩ (.slice none 0 0)).setCell ⟨w.heap.size,9,none⟩ (.slice none 0 0)=WZ;have PZ:=q0J HR1.out hzZ;obtain ⟨m0,m1,m2,m3,m4,m5,m6,m7,m8,m9⟩:=q00 PZ.new;refine bodyPost_ret (v:= .tuple #[.agg #[.int .i64 0,.int .i64 0,.string ⟨#[]⟩,.int .i64 0,.string ⟨#[]⟩,.string ⟨#[]⟩,.slice none 0 0,.slice none 0 0,.slice none 0 0,.slice none 0 0],.int .i64 (x.err:Int),.int .i64 (x.at_:Int)]) (by simp [results,Tryz.results12,go_sem,m0,m1,m2,m3,m4,m5,m6,m7,m8,m9]) rfl ?_;exact ⟨nv0,x.err,x.at_,rfl,HB1.out.trans (PZ.below (Nat.le_refl _)),.inr ⟨pre,x,HX.out.1,HX.out.2,rfl,rfl,rfl⟩⟩
def psP (l:List UInt8) (n:Nat):Pr NT:=match (scW l).getLast? with
 | some x=>if x.err=0 then wholeP (scW l) n else .bad x.err x.at_
 | none=>wholeP (scW l) n
theorem PrW.ps {l:List UInt8} {lo:Nat} {w':World} {d:NV} {er q:Nat} (h:PrW l lo w' d er q):PsE (psP l l.length) lo w' d er q:=by
 rcases h with ⟨h1,h2⟩|⟨pre,x,h1,h2,h3,h4,h5⟩
 · have:psP l l.length=wholeP (scW l) l.length:=by
    unfold psP
    cases hg:(scW l).getLast? with
    | none=>rfl
    | some x=>exact if_pos (h1 x (List.mem_of_getLast? hg))
   rw [this];exact h2
 · have:psP l l.length= .bad x.err x.at_:=by
    unfold psP;rw [h1,List.getLast?_append];exact if_neg h2
   rw [this];exact ⟨h3,h4,h5⟩
theorem parseY (s:ByteArray) (hs:s.size≤16777216) (w:World) (hE:ErrIn w) (hO:OpsX w):
 Calls Tryz.prog 12 #[.string s] w fun e w'=>∃ (d:NV) (er q:Nat),e= .returned (.tuple #[d.v,.int .i64 (er:Int),.int .i64 (q:Int)])∧Below w.heap.size w w'∧PsE (psP s.data.toList s.size) w.heap.size w' d er q:=by
 refine (parseX s hs w hE hO).mono ?_;rintro e w' ⟨d,er,q,he,hb,hp⟩;have:=hp.ps;rw [show s.data.toList.length=s.size by rw [Array.length_toList];rfl] at this;exact ⟨d,er,q,he,hb,this⟩
def okP (r:Pr NT) (c:NT→Bool):Bool:=match r with
 | .ok T _ _=>c T
 | .bad _ _=>false
theorem parse_ok {s:ByteArray} {c:NT→Bool} (h:okP (psP s.data.toList s.size) c=true) (hs:s.size≤16777216) (w:World) (hE:ErrIn w) (hO:OpsX w):
 Calls Tryz.prog 12 #[.string s] w fun e w'=>∃ (T:NT) (d:NV),c T=true∧e= .returned (.tuple #[d.v,.int .i64 0,.int .i64 0])∧Below w.heap.size w w'∧NdI (fun b=>w.heap.size≤b) w' T d:=by
 refine (parseY s hs w hE hO).mono ?_;rintro e w' ⟨d,er',q',rfl,hb,hp⟩
 cases hr:psP s.data.toList s.size with
 | ok T t o=>
  rw [hr] at hp h;obtain ⟨h1,rfl,rfl⟩:=hp;exact ⟨T,d,h,rfl,hb,h1⟩
 | bad er q=>
  rw [hr] at h
  cases h
end Go.Proofs.YtdjleoglphgdgaaGreatDoor
