import Derived.Test.YtdjleoglphgdgaaGreatDoorM19
import Derived.Test.YtdjleoglphgdgaaGreatDoorM2
set_option linter.unusedVariables false
set_option linter.unusedSimpArgs false
namespace Go.Proofs.YtdjleoglphgdgaaGreatDoor
open Go.RowKit
theorem dropWhile_le (p:UInt8→Bool):∀ l:List UInt8,(l.dropWhile p).length≤l.length
 | []=>Nat.le_refl _
 | c::r=>by
  rw [List.dropWhile_cons]
  split
  · exact Nat.le_trans (dropWhile_le p r) (Nat.le_succ _)
  · exact Nat.le_refl _
structure Tok where
 kind:Nat
 at_:Nat
 fin:Nat
 text:List UInt8
 err:Nat
def cut (l:List UInt8) (a b:Nat):List UInt8:=(l.drop a).take (b-a)
end Go.Proofs.YtdjleoglphgdgaaGreatDoor
namespace Go.Proofs.YtdjleoglphgdgaaGreatDoor
open Go.RowKit Go.Shelf
inductive Pr (α:Type) where
 | ok (a: α) (t o:Nat)
 | bad (e q:Nat)
def hrP (ws:List Tok) (t:Nat):Tok:=ws.getD t ⟨0,0,0,[],0⟩
def syP (ws:List Tok) (t:Nat) (s:List UInt8):Bool:=((hrP ws t).kind==10||(hrP ws t).kind==2)&&(hrP ws t).text==s
def ftE (ws:List Tok) (t:Nat):Nat:=if t=ws.length then 170 else 171
def ftQ (ws:List Tok) (nb t:Nat):Nat:=if t=ws.length then nb else (hrP ws t).at_
end Go.Proofs.YtdjleoglphgdgaaGreatDoor
namespace Go.Proofs.YtdjleoglphgdgaaGreatDoor
open Go.RowKit
def blB (c:UInt8):Bool:=decide (c.toNat=32∨c.toNat=9∨c.toNat=10∨c.toNat=13)
def dgB (c:UInt8):Bool:=decide (48≤c.toNat∧c.toNat≤57)
def leB (c:UInt8):Bool:=decide (97≤c.toNat∧c.toNat≤122∨65≤c.toNat∧c.toNat≤90∨c.toNat=95)
def inB (c:UInt8):Bool:=leB c||dgB c
def nuB (c:UInt8):Bool:=inB c||decide (c.toNat=46)
def rmB (c:UInt8):Bool:=decide (c.toNat≠10)
def piB (c:UInt8):Bool:=decide (c.toNat≠34∧c.toNat≠92)
def bhP (P:UInt8→Bool) (l:List UInt8) (p:Nat):Nat:=l.length-((l.drop p).dropWhile P).length
theorem q1G (P:UInt8→Bool) {l:List UInt8} {p:Nat} (hp:p≤l.length):p≤bhP P l p∧bhP P l p≤l.length:=by
 have:=dropWhile_le P (l.drop p);rw [List.length_drop] at this;unfold bhP;omega
theorem q1A {l:List UInt8} {p:Nat} (hp:p<l.length):l.drop p=l.getD p 0::l.drop (p+1):=by
 rw [List.drop_eq_getElem_cons hp];simp [List.getD,hp]
theorem q1B {P:UInt8→Bool} {l:List UInt8} {p:Nat} (hp:p<l.length) (h:P (l.getD p 0)=true):bhP P l p=bhP P l (p+1):=by
 unfold bhP;rw [q1A hp,List.dropWhile_cons,if_pos h]
theorem q1E {P:UInt8→Bool} {l:List UInt8} {p:Nat} (hp:p<l.length) (h:P (l.getD p 0)=false):bhP P l p=p:=by
 unfold bhP;rw [q1A hp,List.dropWhile_cons,if_neg (by rw [h];decide),List.length_cons,List.length_drop];omega
theorem q2p (P:UInt8→Bool) (l:List UInt8):bhP P l l.length=l.length:=by
 unfold bhP;rw [List.drop_length];rfl
theorem bhP_gt {P:UInt8→Bool} {l:List UInt8} {p:Nat} (hp:p<l.length) (h:P (l.getD p 0)=true):p<bhP P l p:=by
 rw [q1B hp h];exact (q1G P (by omega)).1
theorem bhP_at {P:UInt8→Bool} {l:List UInt8}:∀ (n p:Nat),l.length-p≤n→p≤l.length→bhP P l p<l.length→P (l.getD (bhP P l p) 0)=false:=by
 intro n
 induction n with
 | zero=>intro p hn hp h;rw [show p=l.length by omega,q2p] at h;omega
 | succ n ih=>
  intro p hn hp h;by_cases hlt:p<l.length
  · cases hP:P (l.getD p 0) with
    | true=>rw [q1B hlt hP] at h ⊢;exact ih (p+1) (by omega) (by omega) h
    | false=>rw [q1E hlt hP];exact hP
  · rw [show p=l.length by omega,q2p] at h;omega
def idF (l:List UInt8):Nat→Nat→Nat
 | 0,p=>p
 | f+1,p=>if p<l.length∧(l.getD p 0).toNat=35 then idF l f (bhP blB l (bhP rmB l p)) else p
def idW (l:List UInt8) (p:Nat):Nat:=idF l (l.length+1) (bhP blB l p)
theorem rm_gt {l:List UInt8} {p:Nat} (h:p<l.length∧(l.getD p 0).toNat=35):p<bhP blB l (bhP rmB l p)∧bhP blB l (bhP rmB l p)≤l.length:=by
 have h1:=bhP_gt (P:=rmB) h.1 (by unfold rmB;rw [h.2];rfl);have h2:=q1G rmB (p:=p) (l:=l) (by omega);have h3:=q1G blB (p:=bhP rmB l p) (l:=l) h2.2;omega
theorem idF_up {l:List UInt8}:∀ (f p:Nat),p≤l.length→l.length-p<f→idF l (f+1) p=idF l f p:=by
 intro f
 induction f with
 | zero=>intro p _ h;omega
 | succ f ih=>
  intro p hp h;by_cases h1:p<l.length∧(l.getD p 0).toNat=35
  · have:=rm_gt h1;rw [show idF l (f+1+1) p=idF l (f+1) (bhP blB l (bhP rmB l p)) from if_pos h1,show idF l (f+1) p=idF l f (bhP blB l (bhP rmB l p)) from if_pos h1];exact ih _ this.2 (by omega)
  · rw [show idF l (f+1+1) p=p from if_neg h1,show idF l (f+1) p=p from if_neg h1]
theorem idF_more {l:List UInt8} {p:Nat} (hp:p≤l.length):∀ (k f:Nat),l.length-p<f→idF l (f+k) p=idF l f p:=by
 intro k
 induction k with
 | zero=>intro f _;rfl
 | succ k ih=>intro f h;rw [show f+(k+1)=(f+k)+1 by omega,idF_up _ _ hp (by omega)];exact ih f h
theorem idF_any {l:List UInt8} {p f g:Nat} (hp:p≤l.length) (hf:l.length-p<f) (hg:l.length-p<g):idF l f p=idF l g p:=by
 rcases Nat.le_total f g with h|h
 · rw [show g=f+(g-f) by omega,idF_more hp _ _ hf]
 · rw [show f=g+(f-g) by omega,idF_more hp _ _ hg]
theorem idF_ge {l:List UInt8}:∀ (f p:Nat),p≤l.length→p≤idF l f p∧idF l f p≤l.length:=by
 intro f
 induction f with
 | zero=>intro p hp;exact ⟨Nat.le_refl _,hp⟩
 | succ f ih=>
  intro p hp;rw [idF]
  split
  · next h1=>
    have:=rm_gt h1;have h2:=ih _ this.2;omega
  · exact ⟨Nat.le_refl _,hp⟩
theorem idW_ge {l:List UInt8} {p:Nat} (hp:p≤l.length):p≤idW l p∧idW l p≤l.length:=by
 have h1:=q1G blB hp;have h2:=idF_ge (l.length+1) _ h1.2;unfold idW;omega
theorem idF_remark {l:List UInt8} {p:Nat} (h:p<l.length∧(l.getD p 0).toNat=35):idF l (l.length+1) p=idF l (l.length+1) (bhP blB l (bhP rmB l p)):=by
 have:=rm_gt h;rw [idF,if_pos h];exact idF_any this.2 (by omega) (by omega)
theorem idF_rest {l:List UInt8} {f p:Nat} (h:¬ (p<l.length∧(l.getD p 0).toNat=35)):idF l f p=p:=by
 cases f with
 | zero=>rfl
 | succ f=>rw [idF,if_neg h]
def q0A (l:List UInt8) (p:Nat):List UInt8:=if p<l.length∧leB (l.getD p 0)=true then cut l p (bhP inB l p) else []
def ownL:List (List UInt8):=[[100,101,102],[105,102],[116,104,101,110],[101,108,105,102],[101,108,115,101],[101,110,100],[97,115],[114,101,100,117,99,101],[102,111,114,101,97,99,104],[116,114,121],[99,97,116,99,104],[97,110,100],[111,114],[108,97,98,101,108],[98,114,101,97,107],[110,117,108,108],[116,114,117,101],[102,97,108,115,101]]
def ownB (n:List UInt8):Bool:=ownL.contains n
def q2k (l:List UInt8):Bool:=decide (l≠[]∧q0A l 0=l)
def q0Y (l:List UInt8):Bool:=q2k l&& !ownB l
def mk1L:List (List UInt8):=[[124],[44],[61],[60],[62],[43],[45],[42],[47],[37],[46],[40],[41],[91],[93],[123],[125],[58],[59],[63]]
def mk2L:List (List UInt8):=[[46,46],[124,61],[43,61],[45,61],[42,61],[47,61],[37,61],[61,61],[33,61],[60,61],[62,61],[47,47]]
def mkL:List (List UInt8):=[47,47,61]::(mk2L++mk1L)
def mkB (m:List UInt8):Bool:=mkL.contains m
def mkW (l:List UInt8) (p:Nat):List UInt8:=
 if mkB ((l.drop p).take 3)=true then (l.drop p).take 3 else if mkB ((l.drop p).take 2)=true then (l.drop p).take 2 else if mkB ((l.drop p).take 1)=true then (l.drop p).take 1 else []
def inwB (l:List UInt8) (p:Nat):Bool:=Lib.hasPrefix (l.drop p) [92,40]
def peC (l:List UInt8) (p:Nat):Prop:=p<l.length∧(l.getD p 0).toNat=92∧inwB l p=false
instance (l:List UInt8) (p:Nat):Decidable (peC l p):=by unfold peC;infer_instance
def peF (l:List UInt8):Nat→Nat→Nat
 | 0,p=>p
 | f+1,p=>if peC l p then peF l f (bhP piB l (min (p+2) l.length)) else p
def peW (l:List UInt8) (p:Nat):Nat:=peF l (l.length+1) (bhP piB l p)
theorem pe_gt {l:List UInt8} {p:Nat} (h:peC l p):p<bhP piB l (min (p+2) l.length)∧bhP piB l (min (p+2) l.length)≤l.length:=by
 have h3:=q1G piB (p:=min (p+2) l.length) (l:=l) (by omega);have:=h.1;omega
theorem peF_up {l:List UInt8}:∀ (f p:Nat),p≤l.length→l.length-p<f→peF l (f+1) p=peF l f p:=by
 intro f
 induction f with
 | zero=>intro p _ h;omega
 | succ f ih=>
  intro p hp h;by_cases h1:peC l p
  · have:=pe_gt h1;rw [show peF l (f+1+1) p=peF l (f+1) (bhP piB l (min (p+2) l.length)) from if_pos h1,show peF l (f+1) p=peF l f (bhP piB l (min (p+2) l.length)) from if_pos h1];exact ih _ this.2 (by omega)
  · rw [show peF l (f+1+1) p=p from if_neg h1,show peF l (f+1) p=p from if_neg h1]
theorem peF_more {l:List UInt8} {p:Nat} (hp:p≤l.length):∀ (k f:Nat),l.length-p<f→peF l (f+k) p=peF l f p:=by
 intro k
 induction k with
 | zero=>intro f _;rfl
 | succ k ih=>intro f h;rw [show f+(k+1)=(f+k)+1 by omega,peF_up _ _ hp (by omega)];exact ih f h
theorem peF_any {l:List UInt8} {p f g:Nat} (hp:p≤l.length) (hf:l.length-p<f) (hg:l.length-p<g):peF l f p=peF l g p:=by
 rcases Nat.le_total f g with h|h
 · rw [show g=f+(g-f) by omega,peF_more hp _ _ hf]
 · rw [show f=g+(f-g) by omega,peF_more hp _ _ hg]
theorem peF_ge {l:List UInt8}:∀ (f p:Nat),p≤l.length→p≤peF l f p∧peF l f p≤l.length:=by
 intro f
 induction f with
 | zero=>intro p hp;exact ⟨Nat.le_refl _,hp⟩
 | succ f ih=>
  intro p hp;rw [peF]
  split
  · next h1=>
    have:=pe_gt h1;have h2:=ih _ this.2;omega
  · exact ⟨Nat.le_refl _,hp⟩
theorem peW_ge {l:List UInt8} {p:Nat} (hp:p≤l.length):p≤peW l p∧peW l p≤l.length:=by
 have h1:=q1G piB hp;have h2:=peF_ge (l.length+1) _ h1.2;unfold peW;omega
theorem peF_esc {l:List UInt8} {p:Nat} (h:peC l p):peF l (l.length+1) p=peF l (l.length+1) (bhP piB l (min (p+2) l.length)):=by
 have:=pe_gt h;rw [peF,if_pos h];exact peF_any this.2 (by omega) (by omega)
theorem peF_rest {l:List UInt8} {f p:Nat} (h:¬ peC l p):peF l f p=p:=by
 cases f with
 | zero=>rfl
 | succ f=>rw [peF,if_neg h]
def litW (x:List UInt8) (ends:Bool):List UInt8:=34::(x++if ends=true then [34] else [])
def pcU (l:List UInt8) (p:Nat):List Nat × Nat × Nat:=unqL (litW (cut l (p+1) (peW l (p+1))) (decide (peW l (p+1)<l.length))) 1 []
def q1g (l:List UInt8) (p last further:Nat):Tok:=
 if (pcU l p).2.2=0 then (if inwB l (peW l (p+1))=true then ⟨further,p,peW l (p+1)+2,txt (pcU l p).1,0⟩ else ⟨last,p,peW l (p+1)+1,txt (pcU l p).1,0⟩)
 else ⟨0,p+(pcU l p).2.1,0,[],(pcU l p).2.2⟩
def nameT (l:List UInt8) (p:Nat):Tok:=⟨if ownB (q0A l p)=true then 2 else 1,p,p+(q0A l p).length,q0A l p,0⟩
def varT (l:List UInt8) (p:Nat):Tok:=if q0Y (q0A l (p+1))=true then ⟨3,p,p+1+(q0A l (p+1)).length,q0A l (p+1),0⟩ else ⟨0,p,0,[],160⟩
def fieldT (l:List UInt8) (p:Nat):Tok:=⟨4,p,p+1+(q0A l (p+1)).length,q0A l (p+1),0⟩
def numT16 (l:List UInt8) (p:Nat):Tok:=if Pl.formed (cut l p (bhP nuB l p))=true then ⟨5,p,bhP nuB l p,cut l p (bhP nuB l p),0⟩ else ⟨0,p,0,[],42⟩
def markT (l:List UInt8) (p:Nat):Tok:=if mkW l p=[] then ⟨0,p,0,[],160⟩ else ⟨10,p,p+(mkW l p).length,mkW l p,0⟩
def clsB (op:List Nat):Bool:=decide (op.getLast? =some 0)
def tokW (l:List UInt8) (op:List Nat) (p:Nat):Tok:=
 if leB (l.getD p 0)=true then nameT l p
 else if (l.getD p 0).toNat=36 then varT l p
 else if (l.getD p 0).toNat=46∧q0A l (p+1)≠[] then fieldT l p
 else if dgB (l.getD p 0)=true then numT16 l p
 else if (l.getD p 0).toNat=34 then q1g l p 6 7
 else if (l.getD p 0).toNat=41∧clsB op=true then q1g l p 9 8
 else markT l p
def incL:List Nat→List Nat
 | []=>[]
 | [x]=>[x+1]
 | x::y::r=>x::incL (y::r)
def decO:List Nat→List Nat
 | []=>[]
 | [x]=>[x-1]
 | x::y::r=>x::decO (y::r)
def q2a (t:Tok) (op:List Nat):List Nat:=
 if t.kind=7 then op++[0] else if t.kind=9 then op.dropLast
 else if t.kind=10∧t.text=[40] then incL op else if t.kind=10∧t.text=[41] then decO op else op
def scF (l:List UInt8):Nat→Nat→List Nat→List Tok
 | 0,_,_=>[]
 | f+1,p,op=>if p<l.length then (if (tokW l op p).err=0 then tokW l op p::scF l f (idW l (tokW l op p).fin) (q2a (tokW l op p) op) else [tokW l op p]) else (if op=[] then [] else [⟨0,l.length,0,[],21⟩])
def scW (l:List UInt8):List Tok:=scF l (l.length+1) (idW l 0) []
def Stp (t:List UInt8):Prop:=t=[]∨(∃ r,t=34::r)∨∃ r,t=92::40::r
theorem q2y {x t:List UInt8} {k:Nat} (h:k<x.length):(x++t).getD k 0=x.getD k 0:=by simp [List.getD,List.getElem?_append,h]
theorem gd_at {x r:List UInt8} {c:UInt8}:(x++c::r).getD x.length 0=c:=by simp [List.getD]
theorem gd_at1 {x r:List UInt8} {c d:UInt8}:(x++c::d::r).getD (x.length+1) 0=d:=by simp [List.getD,List.getElem?_append]
theorem mem_win {x r:List UInt8} {c:UInt8} (h2:2≤x.length) (h6:x.length<6):c∈((x++c::r).drop 2).take 4:=by
 apply List.mem_of_getElem? (i:=x.length-2);rw [List.getElem?_take_of_lt (by omega),List.getElem?_drop,show 2+(x.length-2)=x.length by omega,List.getElem?_append_right (Nat.le_refl _),Nat.sub_self];rfl
theorem q2f {x t:List UInt8} (hx:x.length<6) (ht:Stp t):numL (x++t)=none:=by
 unfold numL;rw [if_neg];rintro ⟨h6,h0,h1,hh⟩;have hk:x.length=0∨x.length=1∨2≤x.length:=by omega
 rcases ht with rfl|⟨r,rfl⟩|⟨r,rfl⟩
 · simp at h6;omega
 · have hat:(x++34::r).getD x.length 0=34:=gd_at;rcases hk with e|e|e
   · rw [e,h0] at hat;exact absurd hat (by decide)
   · rw [e,h1] at hat;exact absurd hat (by decide)
   · exact absurd (List.all_eq_true.1 hh 34 (mem_win e hx)) (by decide)
 · have hat:(x++92::40::r).getD x.length 0=92:=gd_at;have hat1:(x++92::40::r).getD (x.length+1) 0=40:=gd_at1;rcases hk with e|e|e
   · rw [e] at hat1;rw [show 0+1=1 from rfl,h1] at hat1;exact absurd hat1 (by decide)
   · rw [e,h1] at hat;exact absurd hat (by decide)
   · exact absurd (List.all_eq_true.1 hh 92 (mem_win e hx)) (by decide)
theorem numL_long {x t:List UInt8} (hx:6≤x.length):numL (x++t)=numL x:=by
 unfold numL
 have e1:((x++t).drop 2).take 4=(x.drop 2).take 4:=by
  rw [List.drop_append_of_le_length (by omega),List.take_append_of_le_length (by rw [List.length_drop];omega)]
 rw [q2y (by omega),q2y (by omega),e1];have:6≤(x++t).length:=by rw [List.length_append];omega
 simp only [this,hx,true_and]
theorem numL_stop {x t t':List UInt8} (ht:Stp t) (ht':Stp t'):numL (x++t)=numL (x++t'):=by
 by_cases hx:6≤x.length
 · rw [numL_long hx,numL_long hx]
 · rw [q2f (by omega) ht,q2f (by omega) ht']
theorem shortL_long {x t:List UInt8} (hx:2≤x.length):q0E (x++t)=q0E x:=by
 unfold q0E;rw [q2y (by omega),q2y (by omega)];have:2≤(x++t).length:=by rw [List.length_append];omega
 simp only [this,hx,and_true]
theorem numL_some {x:List UInt8} {n:Nat} (h:numL x=some n):6≤x.length∧x.getD 1 0=117∧x.getD 0 0=92∧∀ j,2≤j→j<6→q1j (x.getD j 0)=true:=by
 unfold numL at h
 split at h
 · next hc=>
   obtain ⟨h6,h0,h1,hh⟩:=hc;refine ⟨h6,h1,h0,fun j h2 h3=>List.all_eq_true.1 hh _ ?_⟩;apply List.mem_of_getElem? (i:=j-2);rw [List.getElem?_take_of_lt (by omega),List.getElem?_drop,show 2+(j-2)=j by omega];have:j<x.length:=by omega
   simp [List.getD,this]
 · cases h
theorem escL_stop {A A' x t t':List UInt8} {k k':Nat} (hA:A.drop k=x++t) (hA':A'.drop k'=x++t') (ht:Stp t) (ht':Stp t') (hx:2≤x.length∨t=[]∧t'=[]):
 ∃ n d c,escL A k=(n,k+d,c)∧escL A' k'=(n,k'+d,c)∧(c=0→d≤x.length∧(d=2∨d=6∧(∃ m,numL x=some m)∨d=12∧(∃ m,numL x=some m)∧∃ m,numL (x.drop 6)=some m))∧(c≠0→d=0):=by
 have hs:q0E (x++t')=q0E (x++t):=by
  rcases hx with hx|⟨rfl,rfl⟩
  · rw [shortL_long hx,shortL_long hx]
  · rfl
 have hn:numL (x++t')=numL (x++t):=numL_stop ht' ht;unfold escL;rw [hA,hA',hs,hn]
 cases h1:q0E (x++t) with
 | some r=>
  refine ⟨r,2,0,rfl,rfl,fun _=>⟨?_,.inl rfl⟩,fun h=>absurd rfl h⟩;rcases hx with hx|⟨rfl,rfl⟩
  · exact hx
  · unfold q0E at h1
    split at h1
    · next hc=>have:=hc.2;simpa using this
    · cases h1
 | none=>
  cases h2:numL (x++t) with
  | none=>exact ⟨0,0,23,rfl,rfl,fun h=>absurd h (by decide),fun _=>rfl⟩
  | some n=>
   have hx6:6≤x.length:=by
    by_cases h:6≤x.length
    · exact h
    · rw [q2f (by omega) ht] at h2;cases h2
   have hxn:numL x=some n:=by rw [← h2,numL_long hx6]
   dsimp only;by_cases h3:n<55296∨57344≤n
   · rw [if_pos h3,if_pos h3];exact ⟨n,6,0,rfl,rfl,fun _=>⟨hx6,.inr (.inl ⟨rfl,n,hxn⟩)⟩,fun h=>absurd rfl h⟩
   · rw [if_neg h3,if_neg h3];have e1:A.drop (k+6)=x.drop 6++t:=by rw [← List.drop_drop,hA,List.drop_append_of_le_length hx6]
     have e2:A'.drop (k'+6)=x.drop 6++t':=by rw [← List.drop_drop,hA',List.drop_append_of_le_length hx6]
     rw [e1,e2,numL_stop (x:=x.drop 6) ht' ht]
     cases h4:numL (x.drop 6++t) with
     | none=>exact ⟨0,0,24,rfl,rfl,fun h=>absurd h (by decide),fun _=>rfl⟩
     | some m=>
      dsimp only
      have hx12:6≤(x.drop 6).length:=by
       by_cases h:6≤(x.drop 6).length
       · exact h
       · rw [q2f (by omega) ht] at h4;cases h4
      by_cases h5:n<56320∧56320≤m∧m<57344
      · rw [if_pos h5,if_pos h5];refine ⟨_,12,0,rfl,rfl,fun _=>⟨by rw [List.length_drop] at hx12;omega,.inr (.inr ⟨rfl,⟨n,hxn⟩,m,by rw [← h4,numL_long hx12]⟩)⟩,fun h=>absurd rfl h⟩
      · rw [if_neg h5,if_neg h5];exact ⟨0,0,24,rfl,rfl,fun h=>absurd h (by decide),fun _=>rfl⟩
theorem q1Z {n:Nat} (h:n<256):(UInt8.ofNat n).toNat=n:=by simp;omega
theorem enc_hi {n:Nat} (hr:n≤1114111) (hn:128≤n):∀ j,j<(enc n).length→128≤((enc n).getD j 0).toNat:=by
 intro j hj;unfold enc at hj ⊢;rw [if_neg (by omega)] at hj ⊢
 split at hj
 · next h=>
   rw [if_pos h];have:j=0∨j=1:=by simp at hj;omega
   rcases this with rfl|rfl
   · show 128≤(UInt8.ofNat _).toNat;rw [q1Z (by omega)];omega
   · show 128≤(UInt8.ofNat _).toNat;rw [q1Z (by omega)];omega
 · next h=>
   rw [if_neg h]
   split at hj
   · next h2=>
     rw [if_pos h2];have:j=0∨j=1∨j=2:=by simp at hj;omega
     rcases this with rfl|rfl|rfl
     · show 128≤(UInt8.ofNat _).toNat;rw [q1Z (by omega)];omega
     · show 128≤(UInt8.ofNat _).toNat;rw [q1Z (by omega)];omega
     · show 128≤(UInt8.ofNat _).toNat;rw [q1Z (by omega)];omega
   · next h2=>
     rw [if_neg h2];have:j=0∨j=1∨j=2∨j=3:=by simp at hj;omega
     rcases this with rfl|rfl|rfl|rfl
     · show 128≤(UInt8.ofNat _).toNat;rw [q1Z (by omega)];omega
     · show 128≤(UInt8.ofNat _).toNat;rw [q1Z (by omega)];omega
     · show 128≤(UInt8.ofNat _).toNat;rw [q1Z (by omega)];omega
     · show 128≤(UInt8.ofNat _).toNat;rw [q1Z (by omega)];omega
theorem enc_lo {n:Nat} (hn:n<128):enc n=[UInt8.ofNat n]:=by unfold enc;rw [if_pos hn]
theorem isR_le {n:Nat} (h:isR n):n≤1114111:=by unfold isR at h;omega
theorem enc_within {x t post:List UInt8} {n:Nat} (hr:isR n) (hx:x≠[]) (ht:Stp t) (h:x++t=enc n++post):∃ x',x=enc n++x':=by
 have hle:=isR_le hr;by_cases hl:(enc n).length≤x.length
 · refine ⟨x.drop (enc n).length,?_⟩;have h1:(x++t).take (enc n).length=enc n:=by rw [h,List.take_append_of_le_length (Nat.le_refl _),List.take_length]
   rw [List.take_append_of_le_length hl] at h1;have h2:=List.take_append_drop (enc n).length x;rw [h1] at h2;exact h2.symm
 · exfalso;have hpos:=List.length_pos_iff.2 hx;by_cases hn:n<128
   · have h1:(enc n).length=1:=by rw [enc_lo hn];rfl
     omega
   · have hb:=enc_hi hle (by omega) x.length (by omega);have e:(enc n).getD x.length 0=(x++t).getD x.length 0:=by rw [h,q2y (by omega)]
     rw [e] at hb;rcases ht with rfl|⟨r,rfl⟩|⟨r,rfl⟩
     · rw [List.append_nil] at hb;simp [List.getD] at hb
     · rw [gd_at] at hb;exact absurd hb (by decide)
     · rw [gd_at] at hb;exact absurd hb (by decide)
theorem dec_stop {x t t':List UInt8} (hx:x≠[]) (ht:Stp t) (ht':Stp t'):decL (x++t')=decL (x++t)∧q0R (x++t')=q0R (x++t)∧(q0R (x++t)=false→∃ n x',isR n∧x=enc n++x'∧decL (x++t)=(n,(enc n).length)):=by
 have hne:∀ u,x++u≠[]:=fun u e=>hx (List.append_eq_nil_iff.1 e).1;rcases stray_or (x++t) (hne t) with ⟨n,post,hr,h,hs⟩|⟨hd,hs⟩
 · obtain ⟨x',hx'⟩:=enc_within hr hx ht h;have e1:decL (x++t)=(n,(enc n).length):=by rw [h];exact q1K n hr post
   have e2:decL (x++t')=(n,(enc n).length):=by rw [hx',List.append_assoc];exact q1K n hr _
   have e3:q0R (x++t')=false:=by
    rcases stray_or (x++t') (hne t') with ⟨_,_,_,_,hs'⟩|⟨hd',hs'⟩
    · exact hs'
    · exfalso;rw [hd'] at e2;have hn:n=65533:=(Prod.mk.inj e2).1.symm;have hl:(enc n).length=1:=(Prod.mk.inj e2).2.symm;rw [hn,q2t] at hl;exact absurd hl (by decide)
   exact ⟨e2.trans e1.symm,e3.trans hs.symm,fun _=>⟨n,x',hr,hx',e1⟩⟩
 · rcases stray_or (x++t') (hne t') with ⟨n,post,hr,h,hs'⟩|⟨hd',hs'⟩
   · exfalso;obtain ⟨x',hx'⟩:=enc_within hr hx ht' h;have e1:decL (x++t)=(n,(enc n).length):=by rw [hx',List.append_assoc];exact q1K n hr _
     rw [hd] at e1;have hn:n=65533:=(Prod.mk.inj e1).1.symm;have hl:(enc n).length=1:=(Prod.mk.inj e1).2.symm;rw [hn,q2t] at hl;exact absurd hl (by decide)
   · exact ⟨hd'.trans hd.symm,hs'.trans hs.symm,fun h=>by rw [hs] at h;cases h⟩
theorem pe_norm {l:List UInt8} {i:Nat} (h:i<l.length) (hp:piB (l.getD i 0)=true):peW l i=peW l (i+1):=by unfold peW;rw [q1B h hp]
theorem pe_back {l:List UInt8} {i:Nat} (h:i<l.length) (h92:(l.getD i 0).toNat=92) (hw:inwB l i=false):peW l i=peW l (min (i+2) l.length):=by
 unfold peW;rw [q1E h (by unfold piB;rw [h92];decide),peF_esc ⟨h,h92,hw⟩]
theorem pe_stop {l:List UInt8} {i:Nat} (h:i<l.length) (hp:piB (l.getD i 0)=false) (hn:¬ peC l i):peW l i=i:=by
 unfold peW;rw [q1E h hp,peF_rest hn]
theorem pe_many {l:List UInt8} {i:Nat}:∀ k,(∀ j,j<k→i+j<l.length∧piB (l.getD (i+j) 0)=true)→peW l i=peW l (i+k):=by
 intro k
 induction k with
 | zero=>intro _;rfl
 | succ k ih=>
  intro h;obtain ⟨h1,h2⟩:=h k (by omega);rw [ih (fun j hj=>h j (by omega)),pe_norm h1 h2];rfl
theorem peF_at {l:List UInt8}:∀ (f p:Nat),p≤l.length→l.length-p<f→(p<l.length→piB (l.getD p 0)=false)→peF l f p<l.length→(l.getD (peF l f p) 0).toNat=34∨inwB l (peF l f p)=true:=by
 intro f
 induction f with
 | zero=>intro p _ h;omega
 | succ f ih=>
  intro p hp hf hpi hlt;by_cases h1:peC l p
  · have h2:=pe_gt h1;have e:peF l (f+1) p=peF l f (bhP piB l (min (p+2) l.length)):=if_pos h1;rw [e] at hlt ⊢;exact ih _ h2.2 (by omega) (fun h=>bhP_at _ _ (Nat.le_refl _) (by omega) h) hlt
  · rw [peF_rest h1] at hlt ⊢;have h2:=hpi hlt;unfold piB at h2;have h3:=of_decide_eq_false h2;by_cases h34:(l.getD p 0).toNat=34
    · exact .inl h34
    · right
      cases hw:inwB l p with
      | true=>rfl
      | false=>exact absurd ⟨hlt,by omega,hw⟩ h1
theorem pe_at {l:List UInt8} {i:Nat} (hi:i≤l.length) (h:peW l i<l.length):(l.getD (peW l i) 0).toNat=34∨inwB l (peW l i)=true:=by
 have h1:=q1G piB hi;unfold peW at h ⊢;exact peF_at _ _ h1.2 (by omega) (fun h=>bhP_at _ _ (Nat.le_refl _) hi h) h
theorem inw_iff {l:List UInt8} {i:Nat}:inwB l i=true↔∃ r,l.drop i=92::40::r:=by
 unfold inwB Lib.hasPrefix;rw [List.isPrefixOf_iff_prefix];constructor
 · rintro ⟨r,h⟩;exact ⟨r,h.symm⟩
 · rintro ⟨r,h⟩;exact ⟨r,h.symm⟩
theorem stp_drop {l:List UInt8} {i:Nat} (hi:i≤l.length):Stp (l.drop (peW l i)):=by
 have hge:=peW_ge hi;by_cases h:peW l i<l.length
 · rcases pe_at hi h with h1|h1
   · refine .inr (.inl ⟨l.drop (peW l i+1),?_⟩);rw [q1A h];have:l.getD (peW l i) 0=34:=by apply UInt8.toNat_inj.1;exact h1
     rw [this]
   · exact .inr (.inr (inw_iff.1 h1))
 · exact .inl (List.drop_eq_nil_of_le (by omega))
theorem cut_drop {l:List UInt8} {i E:Nat} (h:i≤E):l.drop i=cut l i E++l.drop E:=by
 unfold cut
 conv=>lhs;rw [← List.take_append_drop (E-i) (l.drop i)]
 rw [List.drop_drop,show i+(E-i)=E by omega]
theorem lit_drop {l:List UInt8} {p i E:Nat} (b:Bool) (h1:p+1≤i) (h2:i≤E) (h3:E≤l.length):(litW (cut l (p+1) E) b).drop (i-p)=cut l i E++(if b=true then [34] else []):=by
 obtain ⟨k,rfl⟩:∃ k,i=p+1+k:=⟨i-(p+1),by omega⟩;unfold litW;rw [show p+1+k-p=k+1 by omega,List.drop_succ_cons];have hl:(cut l (p+1) E).length=E-(p+1):=by unfold cut;simp;omega
 rw [List.drop_append_of_le_length (by omega)]
 congr 1
 unfold cut;rw [List.drop_take,List.drop_drop,show E-(p+1)-k=E-(p+1+k) by omega]
def rpc (l:List UInt8):Nat→Nat→List Nat→List Nat × Nat × Bool × Nat
 | 0,_,_=>([],0,false,0)
 | f+1,i,acc=>
  if i<l.length then
   if (l.getD i 0).toNat=34 then (acc,i+1,true,0)
   else if inwB l i=true then (acc,i+2,false,0)
   else if (l.getD i 0).toNat=92 then (if (escL l i).2.2=0 then rpc l f (escL l i).2.1 (acc++[(escL l i).1]) else ([],i,false,(escL l i).2.2))
   else if (l.getD i 0).toNat<32 then ([],i,false,22)
   else if q0R (l.drop i)=true then ([],i,false,20)
   else rpc l f (i+(decL (l.drop i)).2) (acc++[(decL (l.drop i)).1])
  else ([],l.length,false,21)
def PcR (l:List UInt8) (p E:Nat) (u:List Nat × Nat × Nat) (r:List Nat × Nat × Bool × Nat):Prop:=
 (r.2.2.2=0∧u=(r.1,E-p+1,0)∧E<l.length∧(r.2.2.1=true∧r.2.1=E+1∧inwB l E=false∨r.2.2.1=false∧r.2.1=E+2∧inwB l E=true∧E+2≤l.length))∨
 (r.2.2.2≠0∧r.1=[]∧u=([],r.2.1-p,r.2.2.2)∧p≤r.2.1∧r.2.1≤l.length∧r.2.2.1=false)
theorem hex_pi {c:UInt8} (h:q1j c=true):piB c=true:=by
 have:∀ c:Fin 256,q1j (UInt8.ofNat c.val)=true→piB (UInt8.ofNat c.val)=true:=by decide +kernel
 have h2:=this ⟨c.toNat,c.toNat_lt⟩;simp only [UInt8.ofNat_toNat] at h2;exact h2 h
theorem getD_drop {l:List UInt8} {i j:Nat}:(l.drop i).getD j 0=l.getD (i+j) 0:=by simp [List.getD,List.getElem?_drop]
theorem inw_not {l:List UInt8} {i:Nat} (h:(l.getD (i+1) 0)≠40):inwB l i=false:=by
 cases hw:inwB l i with
 | false=>rfl
 | true=>
  obtain ⟨r,hr⟩:=inw_iff.1 hw;have:(l.drop i).getD 1 0=40:=by rw [hr];rfl
  rw [getD_drop] at this;exact absurd this h
theorem pe_num {l:List UInt8} {i:Nat} {m:Nat} {x t:List UInt8} (hl:l.drop i=x++t) (hm:numL x=some m):peW l i=peW l (i+6):=by
 obtain ⟨h6,h1,h0,hh⟩:=numL_some hm;have hlen:(l.drop i).length=x.length+t.length:=by rw [hl,List.length_append]
 rw [List.length_drop] at hlen;have hg:∀ j,j<6→l.getD (i+j) 0=x.getD j 0:=fun j hj=>by rw [← getD_drop,hl,q2y (by omega)]
 have e0:=hg 0 (by omega);have e1:=hg 1 (by omega);rw [Nat.add_zero,h0] at e0;rw [h1] at e1;have hw:inwB l i=false:=inw_not (by rw [e1];decide);rw [pe_back (by omega) (by rw [e0];rfl) hw,show min (i+2) l.length=i+2 by omega];rw [pe_many 4 (fun j hj=>⟨by omega,by rw [show i+2+j=i+(2+j) by omega,hg (2+j) (by omega)];exact hex_pi (hh _ (by omega) (by omega))⟩)]
theorem unq_pc {l:List UInt8} {p E:Nat} {lit:List UInt8} (hp:p+1≤l.length) (hE:E≤l.length) (hlit:lit=litW (cut l (p+1) E) (decide (E<l.length))):
 ∀ (n i:Nat) (acc:List Nat),l.length-i≤n→p+1≤i→i≤E→peW l i=E→PcR l p E (unqL lit (i-p) acc) (rpc l (n+1) i acc):=by
 intro n
 have hlen:lit.length=E-p+(if E<l.length then 1 else 0)∨E<p+1:=by
  by_cases h:p+1≤E
  · left
    have hl:(cut l (p+1) E).length=E-(p+1):=by unfold cut;simp;omega
    rw [hlit];unfold litW;by_cases h2:E<l.length
    · rw [decide_eq_true h2,if_pos rfl,if_pos h2];simp [hl];omega
    · rw [decide_eq_false h2,if_neg (by decide),if_neg h2];simp [hl];omega
  · right;omega
 have hst2:Stp (if decide (E<l.length)=true then [34] else []):=by
  split
  · exact .inr (.inl ⟨[],rfl⟩)
  · exact .inl rfl
 induction n with
 | zero=>
  intro i acc hn hi hiE hpe;have hil:i=l.length:=by omega
  rw [rpc,if_neg (by omega)];have hEl:¬ E<l.length:=by omega
  have hlen2:lit.length=E-p:=by
   rcases hlen with h|h
   · rw [if_neg hEl] at h;omega
   · omega
  rw [q1Q acc (by omega),hlen2];exact .inr ⟨by simp,rfl,by show (_,E-p,_)=(_,l.length-p,_);rw [show E=l.length by omega],by show p≤l.length;omega,Nat.le_refl _,rfl⟩
 | succ n ih=>
  intro i acc hn hi hiE hpe;have hstE:Stp (l.drop E):=by rw [← hpe];exact stp_drop (by omega)
  have hli:l.drop i=cut l i E++l.drop E:=cut_drop hiE;have hti:lit.drop (i-p)=cut l i E++(if decide (E<l.length)=true then [34] else []):=by rw [hlit];exact lit_drop _ hi hiE hE
  have hcl:(cut l i E).length=E-i:=by unfold cut;simp;omega
  have hlen2:lit.length=E-p+(if E<l.length then 1 else 0):=by
   rcases hlen with h|h
   · exact h
   · omega
  by_cases hlt:i<l.length
  · rw [rpc,if_pos hlt];by_cases h34:(l.getD i 0).toNat=34
    · have hEi:E=i:=by rw [← hpe];exact pe_stop hlt (by unfold piB;rw [h34];decide) (fun h=>by have:=h.2.1;omega)
      rw [if_pos h34];subst hEi;have hd:lit.drop (E-p)=[34]:=by rw [hti,decide_eq_true hlt,if_pos rfl];simp [cut]
      rw [unqL_quote acc (by rw [hlen2,if_pos hlt];omega) (by rw [hd];rfl)];refine .inl ⟨rfl,rfl,hlt,.inl ⟨rfl,rfl,?_⟩⟩
      cases hw:inwB l E with
      | false=>rfl
      | true=>
       obtain ⟨r,hr⟩:=inw_iff.1 hw;rw [q1A hlt] at hr;have:=(List.cons.inj hr).1;rw [this] at h34;exact absurd h34 (by decide)
    rw [if_neg h34]
    cases hw:inwB l i with
    | true=>
     rw [if_pos rfl]
     have hb:piB (l.getD i 0)=false:=by
      obtain ⟨r,hr⟩:=inw_iff.1 hw;rw [q1A hlt] at hr;rw [(List.cons.inj hr).1];decide
     have hEi:E=i:=by rw [← hpe];exact pe_stop hlt hb (fun h=>by have:=h.2.2;rw [hw] at this;cases this)
     subst hEi;have hd:lit.drop (E-p)=[34]:=by rw [hti,decide_eq_true hlt,if_pos rfl];simp [cut]
     rw [unqL_quote acc (by rw [hlen2,if_pos hlt];omega) (by rw [hd];rfl)];refine .inl ⟨rfl,rfl,hlt,.inr ⟨rfl,rfl,hw,?_⟩⟩;obtain ⟨r,hr⟩:=inw_iff.1 hw;have:=congrArg List.length hr;rw [List.length_drop] at this;simp at this;omega
    | false=>
     rw [if_neg (by decide)];by_cases h92:(l.getD i 0).toNat=92
     · rw [if_pos h92];have hbk:=pe_back hlt h92 hw;have hge:=peW_ge (l:=l) (p:=min (i+2) l.length) (by omega);rw [hpe] at hbk;rw [← hbk] at hge
       have hx2:2≤(cut l i E).length∨(if decide (E<l.length)=true then ([34]:List UInt8) else [])=[]∧l.drop E=[]:=by
        rw [hcl];by_cases h2:i+2≤l.length
        · left;omega
        · right
          have:E=l.length:=by omega
          exact ⟨by rw [if_neg (by simp;omega)],List.drop_eq_nil_of_le (by omega)⟩
       obtain ⟨r,d,c,e1,e2,hok,hbad⟩:=escL_stop hti hli hst2 hstE hx2;have hlk:i-p<lit.length:=by rw [hlen2];omega
       have hdl:decL (lit.drop (i-p))=(92,1):=by
        rw [hti];have hne:cut l i E≠[]:=fun e=>by rw [e] at hcl;simp at hcl;omega
        rw [(dec_stop hne hstE hst2).1,← hli];rw [q1N hlt (by omega),h92]
       have hsl:q0R (lit.drop (i-p))=false:=by unfold q0R;rw [hdl];rfl
       rw [unqL_esc acc hlk hsl (by rw [hdl]),e1,e2];dsimp only;by_cases hc:c=0
       · obtain ⟨hdx,hd3⟩:=hok hc;have hd0:0<d:=by rcases hd3 with h|⟨h,_⟩|⟨h,_⟩ <;> omega
         rw [if_pos hc,if_pos (by omega),if_pos hc,show i-p+d=i+d-p by omega];rw [hcl] at hdx
         have hpe2:peW l (i+d)=E:=by
          rcases hd3 with h|⟨h,m,hm⟩|⟨h,⟨m,hm⟩,m2,hm2⟩
          · rw [h];rw [h] at hdx;rw [hbk,show min (i+2) l.length=i+2 by omega]
          · rw [h,← pe_num hli hm,hpe]
          · have hl6:l.drop (i+6)=(cut l i E).drop 6++l.drop E:=by rw [← List.drop_drop,hli,List.drop_append_of_le_length (by rw [hcl];omega)]
            rw [h,show i+12=i+6+6 by omega,← pe_num hl6 hm2,← pe_num hli hm,hpe]
         exact ih (i+d) _ (by omega) (by omega) (by omega) hpe2
       · have hd0:=hbad hc;subst hd0;rw [if_neg hc,if_neg hc];exact .inr ⟨hc,rfl,rfl,by show p≤i;omega,by show i≤_;omega,rfl⟩
     · rw [if_neg h92];have hpb:piB (l.getD i 0)=true:=by unfold piB;exact decide_eq_true ⟨h34,h92⟩
       have hn1:=pe_norm hlt hpb;have hge:=peW_ge (l:=l) (p:=i+1) (by omega);rw [← hn1,hpe] at hge;have hne:cut l i E≠[]:=fun e=>by rw [e] at hcl;simp at hcl;omega
       obtain ⟨d1,d2,d3⟩:=dec_stop hne hstE hst2;rw [← hli,← hti] at d1;rw [← hli,← hti] at d2;rw [← hli] at d3;have hlk:i-p<lit.length:=by rw [hlen2];omega
       by_cases h32:(l.getD i 0).toNat<32
       · rw [if_pos h32];have hdi:=q1N hlt (show (l.getD i 0).toNat<128 by omega);rw [unqL_ctl acc hlk (by rw [d1,hdi];exact h34) (by rw [d1,hdi];exact h32)];exact .inr ⟨by simp,rfl,rfl,by show p≤i;omega,by show i≤_;omega,rfl⟩
       · rw [if_neg h32]
         have hnd:¬ (decL (l.drop i)).1=34∧¬ (decL (l.drop i)).1<32∧¬ (decL (l.drop i)).1=92:=by
          by_cases ha:(l.getD i 0).toNat<128
          · rw [q1N hlt ha];exact ⟨h34,h32,h92⟩
          · have hdn:l.drop i≠[]:=fun e=>by have:=congrArg List.length e;rw [List.length_drop] at this;simp at this;omega
            have h128:128≤(decL (l.drop i)).1:=by
             rcases stray_or (l.drop i) hdn with ⟨r,post,hr,hh,_⟩|⟨hd,_⟩
             · rw [hh,q1K r hr post];by_cases hr2:128≤r
               · exact hr2
               · exfalso;have h0:(l.drop i).getD 0 0=UInt8.ofNat r:=by rw [hh,enc_lo (by omega)];rfl
                 rw [getD_drop,Nat.add_zero] at h0;rw [h0,q1Z (by omega)] at ha;omega
             · rw [hd];decide
            omega
         cases hs:q0R (l.drop i) with
         | true=>
          rw [if_pos rfl];rw [unqL_stray acc hlk (by rw [d1];exact hnd.1) (by rw [d1];exact hnd.2.1) (by rw [d2];exact hs)];exact .inr ⟨by simp,rfl,rfl,by show p≤i;omega,by show i≤_;omega,rfl⟩
         | false=>
          rw [if_neg (by decide)];obtain ⟨r,x',hr,hx',hdr⟩:=d3 hs;rw [unqL_rune acc hlk (by rw [d1];exact hnd.1) (by rw [d1];exact hnd.2.1) (by rw [d2];exact hs) (by rw [d1];exact hnd.2.2),d1,hdr];dsimp only;have hel:(enc r).length≤E-i:=by rw [← hcl,hx',List.length_append];omega
          have hel1:=(enc_len r).1;rw [show i-p+(enc r).length=i+(enc r).length-p by omega];refine ih _ _ (by omega) (by omega) (by omega) ?_;rw [← hpe];refine (pe_many _ (fun j hj=>⟨by omega,?_⟩)).symm;have hgj:l.getD (i+j) 0=(enc r).getD j 0:=by rw [← getD_drop,hli,hx',List.append_assoc,q2y hj]
          rw [hgj];by_cases hr2:128≤r
          · have:=enc_hi (isR_le hr) hr2 j hj;unfold piB;exact decide_eq_true (by omega)
          · have he:=enc_lo (n:=r) (by omega);rw [he] at hj ⊢;have hj0:j=0:=by simp at hj;exact hj
            subst hj0;rw [hdr] at hnd;show piB (UInt8.ofNat r)=true;unfold piB;rw [q1Z (by omega)];exact decide_eq_true ⟨hnd.1,hnd.2.2⟩
  · have hil:i=l.length:=by omega
    rw [rpc,if_neg hlt];have hEl:¬ E<l.length:=by omega
    rw [if_neg hEl] at hlen2;rw [q1Q acc (by omega),hlen2];exact .inr ⟨by simp,rfl,by show (_,E-p+0,_)=(_,l.length-p,_);rw [show E=l.length by omega];rfl,by show p≤l.length;omega,Nat.le_refl _,rfl⟩
theorem piece_pc {l:List UInt8} {p:Nat} (hp:p<l.length):PcR l p (peW l (p+1)) (pcU l p) (rpc l (l.length+1) (p+1) []):=by
 have hge:=peW_ge (l:=l) (p:=p+1) (by omega);have:=unq_pc (l:=l) (p:=p) (E:=peW l (p+1)) hp hge.2 rfl l.length (p+1) [] (by omega) (Nat.le_refl _) hge.1 rfl;rw [show p+1-p=1 by omega] at this;exact this
theorem piece_up {l:List UInt8} {p a b:Nat} (hp:p<l.length) (h:(q1g l p a b).err=0):(q1g l p a b).at_=p∧p+2≤(q1g l p a b).fin∧(q1g l p a b).fin≤l.length:=by
 have hge:=peW_ge (l:=l) (p:=p+1) (by omega);unfold q1g at h ⊢;rcases piece_pc hp with ⟨_,hu,hlt,h2⟩|⟨h1,_,hu,_⟩
 · rw [hu];dsimp only;rw [if_pos rfl];rcases h2 with ⟨_,_,hw⟩|⟨_,_,hw,h3⟩
   · rw [if_neg (by rw [hw];decide)];exact ⟨rfl,by show p+2≤peW l (p+1)+1;omega,by show peW l (p+1)+1≤_;omega⟩
   · rw [if_pos hw];exact ⟨rfl,by show p+2≤peW l (p+1)+2;omega,by show peW l (p+1)+2≤_;omega⟩
 · rw [hu] at h;dsimp only at h;rw [if_neg h1] at h;exact absurd h h1
end Go.Proofs.YtdjleoglphgdgaaGreatDoor
