import Derived.Test.YtbpopnafcpfifaaGreatDoorM35
set_option linter.unusedVariables false
set_option linter.unusedSimpArgs false
namespace Go.Proofs.YtbpopnafcpfifaaGreatDoor
open Go.RowKit
theorem q1z {l:List UInt8} {p:Nat} (hp:p<l.length) (h:blB (l.getD p 0)=true):idW l p=idW l (p+1):=by unfold idW;rw [q0L hp h]
theorem idn_rem {l:List UInt8} {p:Nat} (hp:p<l.length) (h:(l.getD p 0).toNat=35):idW l p=idW l (bhP rmB l p):=by
 unfold idW;rw [q0H hp (by unfold blB;rw [h];decide),idF_remark ⟨hp,h⟩]
theorem idn_stop {l:List UInt8} {p:Nat} (hp:p<l.length) (h:blB (l.getD p 0)=false) (h2:(l.getD p 0).toNat≠35):idW l p=p:=by
 unfold idW;rw [q0H hp h,idF_rest (fun g=>h2 g.2)]
theorem idn_end (l:List UInt8):idW l l.length=l.length:=by
 have:=q0Y (l:=l) (p:=l.length) (Nat.le_refl _);omega
def Nx (u u':List UInt8):Prop:=∃ c r,u'=c::r∧((c=32∨c=10∨c=35)∨∃ r2,u=c::r2)
def Lc (u u':List UInt8):Prop:=∃ j c r,j≤u.length∧u'=u.take j++c::r∧(c=32∨c=10∨c=35)
theorem Lc.nx {u u':List UInt8} (h:Lc u u'):Nx u u':=by
 obtain ⟨j,c,r,hj,rfl,hc⟩:=h
 cases j with
 | zero=>exact ⟨c,r,rfl,.inl hc⟩
 | succ j=>
  cases u with
  | nil=>simp at hj
  | cons d u2=>exact ⟨d,_,rfl,.inr ⟨u2,rfl⟩⟩
theorem brk3 {c:UInt8} (h:c=32∨c=10∨c=35):inB c=false∧nuB c=false∧leB c=false:=by
 rcases h with rfl|rfl|rfl <;> decide
theorem stop_at {P:UInt8→Bool} {A x r:List UInt8} {c:UInt8} {p:Nat} (hA:A.drop p=x++c::r) (h:bhP P A p=p+x.length):P c=false:=by
 have hl:=q1a hA (by simp);rw [List.length_cons] at hl;have:=bhP_at (P:=P) (l:=A) A.length p (by omega) (by omega) (by rw [h];omega);rw [h,gd_behind hA] at this;exact this
theorem name_lc {A A' x u u':List UInt8} {p p':Nat} (hA:A.drop p=x++u) (hA':A'.drop p'=x++u') (hu:Nx u u') (hx:x≠[]) (h:q0e A p=x):q0e A' p'=x:=by
 obtain ⟨c,r,rfl,hcc⟩:=hu;have hpos:=List.length_pos_iff.2 hx;have hl:=q1a hA (by intro e;exact hx (List.append_eq_nil_iff.1 e).1);have hl':=q1a hA' (by simp);simp at hl';unfold q0e at h
 split at h
 · next hh=>
   have hb:=q0R inB (l:=A) (p:=p) (by omega)
   have hlen:bhP inB A p=p+x.length:=by
    have:=congrArg List.length h;rw [q1P hb.2] at this;omega
   have hc:inB c=false:=by
    rcases hcc with hc|⟨r2,rfl⟩
    · exact (brk3 hc).1
    · exact stop_at hA hlen
   have h1:=run_in hA (by omega) hlen;have h2:=run_all hA' h1 hc;unfold q0e
   have hle:leB (A'.getD p' 0)=true:=by
    have e1:=q1W hA (j:=0) hpos;have e2:=q1W hA' (j:=0) hpos;rw [Nat.add_zero] at e1 e2;rw [e2,← e1];exact hh.2
   rw [if_pos ⟨by omega,hle⟩,h2,cut_app hA']
 · exact absurd h.symm hx
theorem mk_brk3:∀ m∈mkL,∀ k,1≤k→k<m.length→m.getD k 0≠32∧m.getD k 0≠10∧m.getD k 0≠35:=by
 intro m hm k h1 h2;have hl:∀ m∈mkL,m.length≤3:=by decide
 have h3:=hl m hm;have hk:k=1∨k=2:=by omega
 have hd:∀ m∈mkL,(m.getD 1 0≠32∧m.getD 1 0≠10∧m.getD 1 0≠35)∧(m.getD 2 0≠32∧m.getD 2 0≠10∧m.getD 2 0≠35):=by decide
 rcases hk with rfl|rfl
 · exact (hd m hm).1
 · exact (hd m hm).2
theorem mark_lc {A A' x u u':List UInt8} {p p':Nat} (hA:A.drop p=x++u) (hA':A'.drop p'=x++u') (hu:Lc u u') (hx:x≠[]) (h:mkW A p=x):mkW A' p'=x:=by
 obtain ⟨j,c,r,hj,rfl,hc⟩:=hu;have hpos:=List.length_pos_iff.2 hx
 have hmk:mkB x=true:=by
  unfold mkW at h
  split at h
  · next g=>rw [← h];exact g
  · split at h
    · next g=>rw [← h];exact g
    · split at h
      · next g=>rw [← h];exact g
      · exact absurd h.symm hx
 have hxm:=List.contains_iff_mem.1 hmk
 have hl3:x.length≤3:=by
  have hl:∀ m∈mkL,m.length≤3:=by decide
  exact hl x hxm
 have hno:∀ k,x.length<k→k≤3→mkB ((x++(u.take j++c::r)).take k)=false:=fun k hk hk3=>by
  cases hb:mkB ((x++(u.take j++c::r)).take k) with
  | false=>rfl
  | true=>
   exfalso;by_cases hk2:k≤x.length+j
   · have e1:(x++(u.take j++c::r)).take k=(A.drop p).take k:=by
      rw [hA,List.take_append,List.take_append,List.take_append,List.take_take,Nat.min_eq_left (by omega)];rw [show k-x.length-(u.take j).length=0 by rw [List.length_take];omega,List.take_zero,List.append_nil]
     rw [e1] at hb;have hlen:((A.drop p).take k).length=k:=by rw [List.length_take,hA,List.length_append];omega
     unfold mkW at h;have hcs:k=2∨k=3:=by omega
     rcases hcs with rfl|rfl
     · split at h
       · next g=>
         have:=congrArg List.length h;rw [List.length_take] at this;rw [List.length_take] at hlen;omega
       · (try rw [if_pos hb] at h)
         have:=congrArg List.length h;omega
     · (try rw [if_pos hb] at h)
       have:=congrArg List.length h;omega
   · have hm:=List.contains_iff_mem.1 hb;have hlt:(u.take j).length=j:=by rw [List.length_take];omega
     have hlen:x.length+j<((x++(u.take j++c::r)).take k).length:=by
      rw [List.length_take,List.length_append,List.length_append,List.length_cons,hlt];omega
     have h1:=mk_brk3 _ hm (x.length+j) (by omega) hlen
     have h2:((x++(u.take j++c::r)).take k).getD (x.length+j) 0=c:=by
      rw [List.getD,List.getElem?_take_of_lt (by omega),List.getElem?_append_right (by omega),show x.length+j-x.length=j by omega,List.getElem?_append_right (by omega),hlt,Nat.sub_self];rfl
     rw [h2] at h1;rcases hc with rfl|rfl|rfl
     · exact absurd rfl h1.1
     · exact absurd rfl h1.2.1
     · exact absurd rfl h1.2.2
 have htk:(x++(u.take j++c::r)).take x.length=x:=List.take_left;unfold mkW;rw [hA'];have hcs:x.length=1∨x.length=2∨x.length=3:=by omega
 rcases hcs with e|e|e
 · rw [e] at htk;rw [if_neg (by rw [hno 3 (by omega) (by omega)];decide),if_neg (by rw [hno 2 (by omega) (by omega)];decide),htk,if_pos hmk]
 · rw [e] at htk;rw [if_neg (by rw [hno 3 (by omega) (by omega)];decide),htk,if_pos hmk]
 · rw [e] at htk;rw [htk,if_pos hmk]
theorem tok_lc {A A' x u u':List UInt8} {p p':Nat} {op:List Nat} (hp:p<A.length) (he:(tokW A op p).err=0) (hA:A.drop p=x++u) (hf:(tokW A op p).fin=p+x.length) (hA':A'.drop p'=x++u') (hu:Lc u u'):
 tokW A' op p'=⟨(tokW A op p).kind,p',p'+x.length,(tokW A op p).text,0⟩:=by
 have hup:=q2y hp he;have hpos:0<x.length:=by omega
 have hx:x≠[]:=List.length_pos_iff.1 hpos;have hl':=q1a hA' (by intro e;exact hx (List.append_eq_nil_iff.1 e).1);have hp':p'<A'.length:=by omega
 have hb:A'.getD p' 0=A.getD p 0:=by
  have e1:=q1W hA (j:=0) hpos;have e2:=q1W hA' (j:=0) hpos;rw [Nat.add_zero] at e1 e2;rw [e1,e2]
 have hA1:A.drop (p+1)=x.drop 1++u:=by rw [← List.drop_drop,hA,List.drop_append_of_le_length (by omega)]
 have hA1':A'.drop (p'+1)=x.drop 1++u':=by rw [← List.drop_drop,hA',List.drop_append_of_le_length (by omega)]
 have hx1:(x.drop 1).length=x.length-1:=List.length_drop
 have hnm:q0e A (p+1)≠[]→(q0e A (p+1)).length=x.length-1→q0e A (p+1)=x.drop 1∧q0e A' (p'+1)=x.drop 1:=fun h1 h2=>by
  have e:=name_x hA1 h1 (by rw [hx1];exact h2);refine ⟨e,name_lc hA1 hA1' hu.nx ?_ e⟩;rw [← e];exact h1
 rw [tok_eq hp] at he hf ⊢;rw [tok_eq hp'];unfold tkC at he hf ⊢;rw [hb];by_cases h1:leB (A.getD p 0)=true
 · rw [if_pos h1] at he hf ⊢;rw [if_pos h1]
   have hl:(q0e A p).length=x.length:=by
    have:p+(q0e A p).length=p+x.length:=hf;omega
   have e1:=name_x hA (by intro e;rw [e] at hl;simp at hl;omega) hl;have e2:=name_lc hA hA' hu.nx hx e1;unfold nameT;rw [e1,e2]
 rw [if_neg h1] at he hf ⊢;rw [if_neg h1];by_cases h2:(A.getD p 0).toNat=36
 · rw [if_pos h2] at he hf ⊢;rw [if_pos h2];unfold varT at he hf ⊢;by_cases hpl:plainW (q0e A (p+1))=true
   · rw [if_pos hpl] at hf ⊢
     have hl:(q0e A (p+1)).length=x.length-1:=by
      have:p+1+(q0e A (p+1)).length=p+x.length:=hf;omega
     obtain ⟨e1,e2⟩:=hnm (fun e=>by rw [e] at hpl;exact absurd hpl (by decide)) hl;rw [e1] at hpl;rw [e2,e1,if_pos hpl,hx1,show p'+1+(x.length-1)=p'+x.length by omega]
   · rw [if_neg hpl] at he;cases he
 rw [if_neg h2] at he hf ⊢;rw [if_neg h2];by_cases h3:(A.getD p 0).toNat=46∧q0e A (p+1)≠[]
 · rw [if_pos h3] at he hf ⊢;unfold q2u at hf ⊢
   have hl:(q0e A (p+1)).length=x.length-1:=by
    have:p+1+(q0e A (p+1)).length=p+x.length:=hf;omega
   obtain ⟨e1,e2⟩:=hnm h3.2 hl;have h3':x.drop 1≠[]:=by rw [← e1];exact h3.2
   rw [if_pos ⟨h3.1,by rw [e2];exact h3'⟩,e2,e1,hx1,show p'+1+(x.length-1)=p'+x.length by omega]
 rw [if_neg h3] at he hf ⊢
 have h3':¬ ((A.getD p 0).toNat=46∧q0e A' (p'+1)≠[]):=by
  rintro ⟨h46,hn⟩
  have hn0:q0e A (p+1)=[]:=by
   by_cases e:q0e A (p+1)=[]
   · exact e
   · exact absurd ⟨h46,e⟩ h3
  have hle:p'+1<A'.length∧leB (A'.getD (p'+1) 0)=true:=by
   unfold q0e at hn;by_cases hh:p'+1<A'.length∧leB (A'.getD (p'+1) 0)=true
   · exact hh
   · rw [if_neg hh] at hn;exact absurd rfl hn
  by_cases h1x:1<x.length
  · have e1:=q1W hA h1x;have e2:=q1W hA' h1x
    have hln:p+1<A.length:=by
     have:=q1a hA (by intro e;exact hx (List.append_eq_nil_iff.1 e).1);omega
    have hpo:=nameW_pos hln (by rw [e1,← e2];exact hle.2);rw [hn0] at hpo;simp at hpo
  · obtain ⟨c,r,rfl,hc⟩:=hu.nx;have e2:=gd_behind hA';rw [show p'+x.length=p'+1 by omega] at e2;rw [e2] at hle;rcases hc with hc|⟨r2,rfl⟩
    · rw [(brk3 hc).2.2] at hle
      cases hle.2
    · have e1:=gd_behind hA;have hln:=q1a hA (by simp);rw [List.length_cons] at hln;rw [show p+x.length=p+1 by omega] at e1;have hpo:=nameW_pos (l:=A) (p:=p+1) (by omega) (by rw [e1];exact hle.2);rw [hn0] at hpo;simp at hpo
 rw [if_neg h3'];by_cases h4:dgB (A.getD p 0)=true
 · rw [if_pos h4] at he hf ⊢;rw [if_pos h4];unfold q1S at he hf ⊢;by_cases hfo:Pl.formed (cut A p (bhP nuB A p))=true
   · rw [if_pos hfo] at hf ⊢;have hbh:bhP nuB A p=p+x.length:=hf;obtain ⟨c,r,rfl,hcc⟩:=hu.nx
     have hc:nuB c=false:=by
      rcases hcc with hc|⟨r2,rfl⟩
      · exact (brk3 hc).2.1
      · exact stop_at hA hbh
     have hr:=run_all hA' (run_in hA (by omega) hbh) hc;rw [hbh,cut_app hA] at hfo;rw [hr,cut_app hA',if_pos hfo,hbh,cut_app hA]
   · rw [if_neg hfo] at he;cases he
 rw [if_neg h4] at he hf ⊢;rw [if_neg h4];by_cases h5:(A.getD p 0).toNat=34
 · rw [if_pos h5] at he hf ⊢;rw [if_pos h5];exact piece_all hA hA' hx hp he hf
 rw [if_neg h5] at he hf ⊢;rw [if_neg h5];by_cases h6:(A.getD p 0).toNat=41∧clsB op=true
 · rw [if_pos h6] at he hf ⊢;rw [if_pos h6];exact piece_all hA hA' hx hp he hf
 rw [if_neg h6] at he hf ⊢;rw [if_neg h6];unfold q1F at he hf ⊢;by_cases hm:mkW A p=[]
 · rw [if_pos hm] at he;cases he
 · rw [if_neg hm] at hf ⊢
   have hl:(mkW A p).length=x.length:=by
    have:p+(mkW A p).length=p+x.length:=hf;omega
   have hmx:mkW A p=x:=by
    have hpre:∃ k,mkW A p=(A.drop p).take k:=by
     unfold mkW
     split
     · exact ⟨3,rfl⟩
     · split
       · exact ⟨2,rfl⟩
       · split
         · exact ⟨1,rfl⟩
         · exact ⟨0,rfl⟩
    obtain ⟨k,hk⟩:=hpre;rw [hk,hA] at hl ⊢;rw [List.length_take,List.length_append] at hl;by_cases hkx:k≤x.length
    · rw [List.take_append_of_le_length hkx,show k=x.length by omega,List.take_length]
    · have hu0:u=[]:=List.length_eq_zero_iff.1 (by omega);rw [hu0,List.append_nil,List.take_of_length_le (by omega)]
   have e2:=mark_lc hA hA' hu hx hmx;rw [e2,hmx,if_neg hx]
end Go.Proofs.YtbpopnafcpfifaaGreatDoor
namespace Go.Proofs.YtbpopnafcpfifaaGreatDoor
structure Sh (A A':List UInt8) (p p':Nat):Prop where
 dr:A'.drop p'=A.drop p
 le:p≤A.length
 le':p'≤A'.length
section
variable {A A':List UInt8} {p p':Nat}
theorem Sh.len (h:Sh A A' p p'):A'.length-p'=A.length-p:=by
 have:=congrArg List.length h.dr;rwa [List.length_drop,List.length_drop] at this
theorem Sh.add (h:Sh A A' p p') {j:Nat} (hj:p+j≤A.length):Sh A A' (p+j) (p'+j):=
 ⟨by rw [← List.drop_drop,← List.drop_drop,h.dr],hj,by have:=h.len;have:=h.le';omega⟩
theorem Sh.get (h:Sh A A' p p'):A'.getD p' 0=A.getD p 0:=by
 have e1:=q1L (l:=A') (i:=p') (j:=0);have e2:=q1L (l:=A) (i:=p) (j:=0);rw [Nat.add_zero] at e1 e2;rw [← e1,← e2,h.dr]
theorem Sh.run (h:Sh A A' p p') (P:UInt8→Bool):bhP P A' p'+p=bhP P A p+p':=by
 have h1:=h.len;have h2:=h.le;have h3:=h.le';have h4:=q2E P (A.drop p);rw [List.length_drop] at h4;unfold bhP;rw [h.dr];omega
theorem Sh.cut_ (h:Sh A A' p p') (d:Nat):cut A' p' (p'+d)=cut A p (p+d):=by
 unfold cut;rw [h.dr,show p'+d-p'=d by omega,show p+d-p=d by omega]
theorem Sh.name (h:Sh A A' p p'):q0e A' p'=q0e A p:=by
 have h1:=h.len;have h2:=h.le;have h3:=h.le';have hr:=h.run inB;have hg:=q0R inB h2;unfold q0e;by_cases hc:p<A.length∧leB (A.getD p 0)=true
 · rw [if_pos hc,if_pos ⟨by omega,by rw [h.get];exact hc.2⟩];obtain ⟨d,hd⟩:∃ d,bhP inB A p=p+d:=⟨bhP inB A p-p,by omega⟩;rw [hd,show bhP inB A' p'=p'+d by omega];exact h.cut_ d
 · rw [if_neg hc,if_neg (fun e=>hc ⟨by omega,by rw [← h.get];exact e.2⟩)]
theorem Sh.idle (A A':List UInt8):∀ (n p p':Nat),A.length-p≤n→Sh A A' p p'→idW A' p'+p=idW A p+p':=by
 intro n
 induction n with
 | zero=>
  intro p p' hn h;have h1:=h.len;have h2:=h.le;have h3:=h.le';rw [show p=A.length by omega,show p'=A'.length by omega,idn_end,idn_end];omega
 | succ n ih=>
  intro p p' hn h;have h1:=h.len;have h2:=h.le;have h3:=h.le';by_cases hp:p<A.length
  · have hp':p'<A'.length:=by omega
    by_cases b1:blB (A.getD p 0)=true
    · rw [q1z hp b1,q1z hp' (by rw [h.get];exact b1)];have:=ih (p+1) (p'+1) (by omega) (h.add (by omega));omega
    · rw [Bool.not_eq_true] at b1;by_cases b2:(A.getD p 0).toNat=35
      · have hr:=h.run rmB;have hg:=bhP_gt (P:=rmB) hp (by unfold rmB;rw [b2];rfl);have hge:=q0R rmB h2;rw [idn_rem hp b2,idn_rem hp' (by rw [h.get];exact b2)];obtain ⟨d,hd⟩:∃ d,bhP rmB A p=p+d:=⟨bhP rmB A p-p,by omega⟩;rw [hd,show bhP rmB A' p'=p'+d by omega];have:=ih (p+d) (p'+d) (by omega) (h.add (by omega));omega
      · rw [idn_stop hp b1 b2,idn_stop hp' (by rw [h.get];exact b1) (by rw [h.get];exact b2)];omega
  · rw [show p=A.length by omega,show p'=A'.length by omega,idn_end,idn_end];omega
theorem tk5 {a b c c':Nat} {x:List UInt8} (h:c=c'):(⟨a,b,c,x,0⟩:Tok)=⟨a,b,c',x,0⟩:=by rw [h]
theorem tok_sh {op:List Nat} (hp:p<A.length) (h:Sh A A' p p') (he:(tokW A op p).err=0):tokW A' op p'=⟨(tokW A op p).kind,p',p'+((tokW A op p).fin-p),(tokW A op p).text,0⟩:=by
 have hup:=q2y hp he;have h1:=h.len;have hp':p'<A'.length:=by omega
 have h3:=h.add (j:=1) (by omega);obtain ⟨x,hx⟩:∃ x,cut A p (tokW A op p).fin=x:=⟨_,rfl⟩;have hxl:x.length=(tokW A op p).fin-p:=by rw [← hx];exact q1P hup.2.2
 have hA:A.drop p=x++A.drop (tokW A op p).fin:=by rw [← hx];exact cut_drop (by omega)
 have hA':A'.drop p'=x++A.drop (tokW A op p).fin:=h.dr.trans hA;have hxn:x≠[]:=List.length_pos_iff.1 (by omega);have hfx:(tokW A op p).fin=p+x.length:=by omega
 rw [show (tokW A op p).fin-p=x.length by omega];generalize A.drop (tokW A op p).fin=u at hA hA';clear hup hx hxl;rw [tok_eq hp] at he hfx ⊢;rw [tok_eq hp'];unfold tkC at he hfx ⊢;rw [h.get,h3.name];by_cases c1:leB (A.getD p 0)=true
 · rw [if_pos c1] at he hfx ⊢;rw [if_pos c1];unfold nameT at hfx ⊢;rw [h.name];exact tk5 (by have:p+(q0e A p).length=p+x.length:=hfx;omega)
 rw [if_neg c1] at he hfx ⊢;rw [if_neg c1];by_cases c2:(A.getD p 0).toNat=36
 · rw [if_pos c2] at he hfx ⊢;rw [if_pos c2];unfold varT at he hfx ⊢;rw [h3.name];by_cases hpl:plainW (q0e A (p+1))=true
   · rw [if_pos hpl] at hfx ⊢;rw [if_pos hpl];exact tk5 (by have:p+1+(q0e A (p+1)).length=p+x.length:=hfx;omega)
   · rw [if_neg hpl] at he;cases he
 rw [if_neg c2] at he hfx ⊢;rw [if_neg c2];by_cases c3:(A.getD p 0).toNat=46∧q0e A (p+1)≠[]
 · rw [if_pos c3] at he hfx ⊢;rw [if_pos c3];unfold q2u at hfx ⊢;rw [h3.name];exact tk5 (by have:p+1+(q0e A (p+1)).length=p+x.length:=hfx;omega)
 rw [if_neg c3] at he hfx ⊢;rw [if_neg c3];by_cases c4:dgB (A.getD p 0)=true
 · rw [if_pos c4] at he hfx ⊢;rw [if_pos c4];have hr:=h.run nuB;have hge:=q0R nuB h.le;obtain ⟨d,hd⟩:∃ d,bhP nuB A p=p+d:=⟨bhP nuB A p-p,by omega⟩;unfold q1S at he hfx ⊢;rw [hd] at he hfx ⊢;rw [show bhP nuB A' p'=p'+d by omega,h.cut_ d];by_cases hfo:Pl.formed (cut A p (p+d))=true
   · rw [if_pos hfo] at hfx ⊢;rw [if_pos hfo];exact tk5 (by have:p+d=p+x.length:=hfx;omega)
   · rw [if_neg hfo] at he;cases he
 rw [if_neg c4] at he hfx ⊢;rw [if_neg c4];by_cases c5:(A.getD p 0).toNat=34
 · rw [if_pos c5] at he hfx ⊢;rw [if_pos c5];exact piece_all hA hA' hxn hp he hfx
 rw [if_neg c5] at he hfx ⊢;rw [if_neg c5];by_cases c6:(A.getD p 0).toNat=41∧clsB op=true
 · rw [if_pos c6] at he hfx ⊢;rw [if_pos c6];exact piece_all hA hA' hxn hp he hfx
 rw [if_neg c6] at he hfx ⊢;rw [if_neg c6];have hmk:mkW A' p'=mkW A p:=by unfold mkW;rw [h.dr]
 unfold q1F at he hfx ⊢;rw [hmk];by_cases hm:mkW A p=[]
 · rw [if_pos hm] at he;cases he
 · rw [if_neg hm] at hfx ⊢;rw [if_neg hm];exact tk5 (by have:p+(mkW A p).length=p+x.length:=hfx;omega)
end
theorem scF_ok {l:List UInt8} {f p:Nat} {op:List Nat} (hp:p<l.length) (he:(tokW l op p).err=0):scF l (f+1) p op=tokW l op p::scF l f (idW l (tokW l op p).fin) (q15 (tokW l op p) op):=by rw [scF,if_pos hp,if_pos he]
theorem scF_bad {l:List UInt8} {f p:Nat} {op:List Nat} (hp:p<l.length) (he:¬ (tokW l op p).err=0):scF l (f+1) p op=[tokW l op p]:=by rw [scF,if_pos hp,if_neg he]
theorem scF_end {l:List UInt8} {f p:Nat} {op:List Nat} (hp:¬ p<l.length):scF l (f+1) p op=if op=[] then [] else [⟨0,l.length,0,[],21⟩]:=by rw [scF,if_neg hp]
def addT (g:Nat) (t:Tok):Tok:=⟨t.kind,t.at_+g,t.fin+g,t.text,0⟩
theorem in_tail {A A':List UInt8} {g:Nat}:∀ (f p:Nat) (op:List Nat),Sh A A' p (p+g)→A.length-p<f→(∀ t∈scF A f p op,t.err=0)→∀ F,A'.length-(p+g)<F→scF A' F (p+g) op=(scF A f p op).map (addT g)
 | 0,p,op,h,hf,_,F,hF=>by omega
 | f+1,p,op,h,hf,hok,F,hF=>by
  obtain ⟨F,rfl⟩:∃ k,F=k+1:=⟨F-1,by omega⟩;have h1:=h.len;have h2:=h.le;have h3:=h.le';by_cases hp:p<A.length
  · by_cases he:(tokW A op p).err=0
    · obtain ⟨e1,e2,e3⟩:=q2y hp he;have hT:=tok_sh hp h he
      have hfin:Sh A A' (tokW A op p).fin ((tokW A op p).fin+g):=by
       have:=h.add (j:=(tokW A op p).fin-p) (by omega);rwa [show p+((tokW A op p).fin-p)=(tokW A op p).fin by omega,show p+g+((tokW A op p).fin-p)=(tokW A op p).fin+g by omega] at this
      have hid:=Sh.idle A A' _ _ _ (Nat.le_refl _) hfin;have hig:=q0Y e3
      have hnx:Sh A A' (idW A (tokW A op p).fin) (idW A (tokW A op p).fin+g):=by
       have:=hfin.add (j:=idW A (tokW A op p).fin-(tokW A op p).fin) (by omega);rwa [show (tokW A op p).fin+(idW A (tokW A op p).fin-(tokW A op p).fin)=idW A (tokW A op p).fin by omega,show (tokW A op p).fin+g+(idW A (tokW A op p).fin-(tokW A op p).fin)=idW A (tokW A op p).fin+g by omega] at this
      rw [scF_ok hp he] at hok ⊢;rw [scF_ok (by omega) (by rw [hT]),hT];rw [show q15 ⟨(tokW A op p).kind,p+g,p+g+((tokW A op p).fin-p),(tokW A op p).text,0⟩ op=q15 (tokW A op p) op from rfl];show _::scF A' F (idW A' (p+g+((tokW A op p).fin-p))) _=_;rw [show p+g+((tokW A op p).fin-p)=(tokW A op p).fin+g by omega,show idW A' ((tokW A op p).fin+g)=idW A (tokW A op p).fin+g by omega];rw [in_tail f _ _ hnx (by omega) (fun t ht=>hok t (List.mem_cons_of_mem _ ht)) F (by have:=hnx.len;have:=hnx.le';omega),List.map_cons]
      congr 1
      unfold addT;rw [e1]
    · rw [scF_bad hp he] at hok;exact absurd (hok _ (List.mem_cons_self ..)) he
  · rw [scF_end hp] at hok ⊢;rw [scF_end (by omega)];by_cases ho:op=[]
    · rw [if_pos ho,if_pos ho];rfl
    · rw [if_neg ho] at hok;exact absurd (hok _ (List.mem_cons_self ..)) (show ¬ (21=0) by decide)
theorem sc_tok {l:List UInt8}:∀ (f p:Nat) (op:List Nat),p≤l.length→(∀ t∈scF l f p op,t.err=0)→∀ t∈scF l f p op,∃ op',t=tokW l op' t.at_∧p≤t.at_∧t.at_<l.length
 | 0,p,op,_,_,t,ht=>by cases ht
 | f+1,p,op,hp,hok,t,ht=>by
  by_cases h:p<l.length
  · by_cases he:(tokW l op p).err=0
    · obtain ⟨e1,e2,e3⟩:=q2y h he;rw [scF,if_pos h,if_pos he] at hok ht;have hi:=q0Y e3;rcases List.mem_cons.1 ht with rfl|ht
      · exact ⟨op,by rw [e1],by omega,by omega⟩
      · obtain ⟨op',h1,h2,h3⟩:=sc_tok f _ _ hi.2 (fun t ht=>hok t (List.mem_cons_of_mem _ ht)) t ht;exact ⟨op',h1,by omega,h3⟩
    · rw [scF,if_pos h,if_neg he] at hok;exact absurd (hok _ (List.mem_cons_self ..)) he
  · rw [scF,if_neg h] at hok ht;by_cases ho:op=[]
    · rw [if_pos ho] at ht
      cases ht
    · rw [if_neg ho] at hok;exact absurd (hok _ (List.mem_cons_self ..)) (show ¬ (21=0) by decide)
def inL (q:Nat) (gp l:List UInt8):List UInt8:=l.take q++(gp++l.drop q)
structure Gp (gp:List UInt8):Prop where
 brk:∃ c r,gp=c::r∧(c=32∨c=10∨c=35)
 idl:∀ (T v:List UInt8) (P:Nat),T.drop P=gp++v→idW T P=idW T (P+gp.length)
def mvQ (q g x:Nat):Nat:=if q≤x then x+g else x
def shQ (q g:Nat) (t:Tok):Tok:=if q≤t.at_ then addT g t else ⟨t.kind,t.at_,t.fin,t.text,0⟩
theorem shQ_at (q g:Nat) (t:Tok):(shQ q g t).kind=t.kind∧(shQ q g t).text=t.text∧(shQ q g t).at_=mvQ q g t.at_∧(shQ q g t).err=0:=by
 unfold shQ mvQ addT;by_cases h:q≤t.at_
 · rw [if_pos h,if_pos h];exact ⟨rfl,rfl,rfl,rfl⟩
 · rw [if_neg h,if_neg h];exact ⟨rfl,rfl,rfl,rfl⟩
section
variable {l gp:List UInt8} {q:Nat}
theorem inL_len (hq:q≤l.length):(inL q gp l).length=l.length+gp.length:=by
 unfold inL;rw [List.length_append,List.length_append,List.length_take,List.length_drop];omega
theorem inL_get (hq:q≤l.length) {j:Nat} (hj:j<q):(inL q gp l).getD j 0=l.getD j 0:=by
 have h1:(l.take q).length=q:=by rw [List.length_take];omega
 unfold inL;rw [q2m (by omega)];simp [List.getD,List.getElem?_take,hj]
theorem inL_drop (hq:q≤l.length) {j:Nat} (hj:j≤q):(inL q gp l).drop j=(l.drop j).take (q-j)++(gp++l.drop q):=by
 have h1:(l.take q).length=q:=by rw [List.length_take];omega
 unfold inL;rw [List.drop_append_of_le_length (by omega),List.drop_take]
theorem inL_at (hq:q≤l.length):(inL q gp l).drop q=gp++l.drop q:=by
 rw [inL_drop hq (Nat.le_refl _),Nat.sub_self,List.take_zero,List.nil_append]
theorem inL_sh (hq:q≤l.length):Sh l (inL q gp l) q (q+gp.length):=by
 refine ⟨?_,hq,by rw [inL_len hq];omega⟩;rw [← List.drop_drop,inL_at hq,List.drop_left]
theorem in_id (G:Gp gp) (hq:q<l.length) (hb:blB (l.getD q 0)=false):∀ (n p:Nat),q-p≤n→p≤q→idW l p≤q→idW (inL q gp l) p=if idW l p<q then idW l p else idW (inL q gp l) q:=by
 have hT:=inL_len (gp:=gp) (q:=q) (l:=l) (by omega)
 have base:∀ p,p=q→idW (inL q gp l) p=if idW l p<q then idW l p else idW (inL q gp l) q:=fun p hp=>by
  subst hp;rw [if_neg (by have:=(q0Y (l:=l) (p:=p) (by omega)).1;omega)]
 intro n
 induction n with
 | zero=>exact fun p hn hp _=>base p (by omega)
 | succ n ih=>
  intro p hn hp hi;by_cases h:p=q
  · exact base p h
  have hpl:p<l.length:=by omega
  have hpt:p<(inL q gp l).length:=by omega
  have hg:=inL_get (gp:=gp) (l:=l) (q:=q) (by omega) (j:=p) (by omega);by_cases b1:blB (l.getD p 0)=true
  · rw [q1z hpl b1] at hi ⊢;rw [q1z hpt (by rw [hg];exact b1)];exact ih (p+1) (by omega) (by omega) hi
  · rw [Bool.not_eq_true] at b1;by_cases b2:(l.getD p 0).toNat=35
    · have hgt:=bhP_gt (P:=rmB) hpl (by unfold rmB;rw [b2];rfl);have hge:=q0R rmB (l:=l) (p:=p) (by omega);rw [idn_rem hpl b2] at hi ⊢;rw [idn_rem hpt (by rw [hg];exact b2)];have hrq:bhP rmB l p≤q:=Nat.le_trans (q0Y hge.2).1 hi;have hat:=bhP_at (P:=rmB) (l:=l) _ p (Nat.le_refl _) (by omega) (by omega)
      have hrl:bhP rmB l p<q:=by
       rcases Nat.lt_or_ge (bhP rmB l p) q with h1|h1
       · exact h1
       · exfalso;rw [show bhP rmB l p=q by omega] at hat;unfold rmB at hat
         have h10:(l.getD q 0).toNat=10:=by
          have:=of_decide_eq_false hat;omega
         unfold blB at hb;have:=of_decide_eq_false hb;omega
      have hs:∀ k,p+k≤bhP rmB l p→bhP rmB (inL q gp l) p=bhP rmB (inL q gp l) (p+k):=by
       intro k
       induction k with
       | zero=>intro _;rfl
       | succ k ihk=>
        intro hk;rw [ihk (by omega),q0L (by omega) (by rw [inL_get (by omega) (by omega)];exact bhP_in _ p (p+k) (Nat.le_refl _) (by omega) (by omega) (by omega))];rfl
      have hr:bhP rmB (inL q gp l) p=bhP rmB l p:=by
       have h1:=hs (bhP rmB l p-p) (by omega);rw [show p+(bhP rmB l p-p)=bhP rmB l p by omega] at h1;rw [h1,q0H (by omega) (by rw [inL_get (by omega) hrl];exact hat)]
      rw [hr];exact ih _ (by omega) (by omega) hi
    · rw [idn_stop hpl b1 b2,idn_stop hpt (by rw [hg];exact b1) (by rw [hg];exact b2),if_pos (by omega)]
theorem in_gap (G:Gp gp) (hq:q<l.length) (hs:idW l q=q):idW (inL q gp l) q=q+gp.length:=by
 rw [G.idl _ _ _ (inL_at (by omega))];have:=Sh.idle l (inL q gp l) _ _ _ (Nat.le_refl _) (inL_sh (gp:=gp) (l:=l) (q:=q) (by omega));omega
theorem in_head (G:Gp gp) (hq:q<l.length) (hb:blB (l.getD q 0)=false) (hs:idW l q=q):∀ (f p:Nat) (op:List Nat),p≤q→l.length-p<f→(∀ t∈scF l f (idW l p) op,t.err=0)→(∃ t∈scF l f (idW l p) op,t.at_=q)→∀ F,(inL q gp l).length-p<F→scF (inL q gp l) F (idW (inL q gp l) p) op=(scF l f (idW l p) op).map (shQ q gp.length)
 | 0,p,op,hp,hf,_,_,F,hF=>by omega
 | f+1,p,op,hp,hf,hok,hm,F,hF=>by
  have hT:=inL_len (gp:=gp) (q:=q) (l:=l) (by omega);have hi:=q0Y (l:=l) (p:=p) (by omega);have hlow:=sc_tok (l:=l) (f+1) (idW l p) op hi.2 hok
  have hiq:idW l p≤q:=by
   obtain ⟨t,ht,e⟩:=hm;obtain ⟨_,_,h2,_⟩:=hlow t ht;omega
  have hid:=in_id G hq hb _ p (Nat.le_refl _) hp hiq;by_cases hq2:idW l p<q
  · rw [if_pos hq2] at hid;rw [hid];generalize idW l p=s at *;have hsl:s<l.length:=by omega
    by_cases he:(tokW l op s).err=0
    · obtain ⟨e1,e2,e3⟩:=q2y hsl he;rw [scF_ok hsl he] at hok hm ⊢;have hig:=q0Y e3;have hok2:∀ t∈scF l f (idW l (tokW l op s).fin) (q15 (tokW l op s) op),t.err=0:=fun t ht=>hok t (List.mem_cons_of_mem _ ht)
      have hm2:∃ t∈scF l f (idW l (tokW l op s).fin) (q15 (tokW l op s) op),t.at_=q:=by
       obtain ⟨t,ht,e⟩:=hm;rcases List.mem_cons.1 ht with rfl|ht
       · omega
       · exact ⟨t,ht,e⟩
      have hfq:(tokW l op s).fin≤q:=by
       obtain ⟨t,ht,e⟩:=hm2;obtain ⟨_,_,h2,_⟩:=sc_tok f _ _ hig.2 hok2 t ht;omega
      obtain ⟨c,r,hg,hc⟩:=G.brk;have hcl:(cut l s (tokW l op s).fin).length=(tokW l op s).fin-s:=q1P e3
      have hd:(inL q gp l).drop s=cut l s (tokW l op s).fin++(((l.drop (tokW l op s).fin).take (q-(tokW l op s).fin))++(gp++l.drop q)):=by
       rw [inL_drop (by omega) (by omega),← List.append_assoc (cut l s (tokW l op s).fin)]
       congr 1
       have hcd:=cut_drop (l:=l) (i:=s) (E:=(tokW l op s).fin) (by omega);generalize cut l s (tokW l op s).fin=x at hcd hcl;rw [hcd,List.take_append,hcl,show q-s-((tokW l op s).fin-s)=q-(tokW l op s).fin by omega,List.take_of_length_le (by omega)]
      have hT2:=tok_lc (A:=l) (A':=inL q gp l) (p':=s) (x:=cut l s (tokW l op s).fin) (u:=l.drop (tokW l op s).fin) (u':=((l.drop (tokW l op s).fin).take (q-(tokW l op s).fin))++(gp++l.drop q)) hsl he (cut_drop (by omega)) (by rw [hcl];omega) hd ⟨q-(tokW l op s).fin,c,r++l.drop q,by rw [List.length_drop];omega,by rw [hg];rfl,hc⟩;rw [hcl,show s+((tokW l op s).fin-s)=(tokW l op s).fin by omega] at hT2;obtain ⟨F,rfl⟩:∃ k,F=k+1:=⟨F-1,by omega⟩;rw [scF_ok (by omega) (by rw [hT2]),hT2];rw [show q15 ⟨(tokW l op s).kind,s,(tokW l op s).fin,(tokW l op s).text,0⟩ op=q15 (tokW l op s) op from rfl];show _::scF (inL q gp l) F (idW (inL q gp l) (tokW l op s).fin) _=_;rw [in_head G hq hb hs f (tokW l op s).fin _ hfq (by omega) hok2 hm2 F (by omega),List.map_cons]
      congr 1
      unfold shQ;rw [e1,if_neg (by omega)]
    · rw [scF_bad hsl he] at hok;exact absurd (hok _ (List.mem_cons_self ..)) he
  · rw [if_neg hq2,in_gap G hq hs] at hid;have hiq2:idW l p=q:=by omega
    rw [hid,hiq2];rw [hiq2] at hok hlow;rw [in_tail (f+1) q op (inL_sh (by omega)) (by omega) hok F (by omega)];refine List.map_congr_left fun t ht=> ?_;obtain ⟨_,_,h2,_⟩:=hlow t ht;unfold shQ;rw [if_pos h2]
theorem sc_in (G:Gp gp) (h:∀ t∈scW l,t.err=0) (hm:∃ t∈scW l,t.at_=q):q<l.length∧scW (inL q gp l)=(scW l).map (shQ q gp.length):=by
 have hi:=q0Y (l:=l) (p:=0) (Nat.zero_le _);have hlow:=sc_tok (l:=l) (l.length+1) (idW l 0) [] hi.2 h;obtain ⟨t,ht,e⟩:=hm;obtain ⟨op',h1,h2,h3⟩:=hlow t ht;rw [e] at h1 h2 h3;have hte:=h t ht;rw [h1] at hte;obtain ⟨b1,b2⟩:=tok_first h3 hte;refine ⟨h3,?_⟩;have hT:=inL_len (gp:=gp) (q:=q) (l:=l) (by omega);exact in_head G h3 b1 (idn_stop h3 b1 b2) (l.length+1) 0 [] (Nat.zero_le _) (by omega) h ⟨t,ht,e⟩ _ (by omega)
end
def gp0:List UInt8:=[32]
def gp1:List UInt8:=[10,9]
def gp2:List UInt8:=[32,35,32,97,32,114,101,109,97,114,107,32,124,10]
theorem gp0_ok:Gp gp0:=by
 refine ⟨⟨32,[],rfl,.inl rfl⟩,fun T v P h=> ?_⟩;have hl:=q1a h (by simp [gp0]);have e0:=q1W h (j:=0) (by decide);rw [Nat.add_zero] at e0;have hlen:gp0.length=1:=rfl;rw [hlen] at hl ⊢;rw [q1z (by omega) (by rw [e0];decide)]
theorem gp1_ok:Gp gp1:=by
 refine ⟨⟨10,[9],rfl,.inr (.inl rfl)⟩,fun T v P h=> ?_⟩;have hl:=q1a h (by simp [gp1]);have e0:=q1W h (j:=0) (by decide);have e1:=q1W h (j:=1) (by decide);rw [Nat.add_zero] at e0;have hlen:gp1.length=2:=rfl;rw [hlen] at hl ⊢;rw [q1z (by omega) (by rw [e0];decide),q1z (by omega) (by rw [e1];decide)]
theorem gp2_ok:Gp gp2:=by
 refine ⟨⟨32,_,rfl,.inl rfl⟩,fun T v P h=> ?_⟩;have hl:=q1a h (by simp [gp2]);have e0:=q1W h (j:=0) (by decide);have e1:=q1W h (j:=1) (by decide);have e13:=q1W h (j:=13) (by decide);rw [Nat.add_zero] at e0;have hlen:gp2.length=14:=rfl;rw [hlen] at hl ⊢
 have h1:T.drop (P+1)=[35,32,97,32,114,101,109,97,114,107,32,124]++10::v:=by
  rw [← List.drop_drop,h];rfl
 have hr:bhP rmB T (P+1)=P+1+12:=run_all (P:=rmB) (A:=T) (x:=[35,32,97,32,114,101,109,97,114,107,32,124]) (c:=10) (r:=v) h1 (by
  intro j hj;have hj:j<12:=hj;rcases (show j=0∨j=1∨j=2∨j=3∨j=4∨j=5∨j=6∨j=7∨j=8∨j=9∨j=10∨j=11 by omega) with rfl|rfl|rfl|rfl|rfl|rfl|rfl|rfl|rfl|rfl|rfl|rfl <;> decide) (by decide)
 rw [q1z (by omega) (by rw [e0];decide),idn_rem (by omega) (by rw [e1];decide),hr,show P+1+12=P+13 by omega,q1z (by omega) (by rw [e13];decide)]
end Go.Proofs.YtbpopnafcpfifaaGreatDoor
