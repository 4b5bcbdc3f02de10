import Derived.Test.YtbpopnafcpfifaaGreatDoorM29
import Derived.Test.YtbpopnafcpfifaaGreatDoorM30
set_option linter.unusedVariables false
set_option linter.unusedSimpArgs false
namespace Go.Proofs.YtbpopnafcpfifaaGreatDoor
open Go.RowKit Go.Shelf
noncomputable def sq {α:Type} (x y: α):Bool:= @decide (x=y) (Classical.propDecidable _)
theorem sq_iff {α:Type} {x y: α}:sq x y=true↔x=y:=by unfold sq;exact @decide_eq_true_iff (x=y) (Classical.propDecidable _)
theorem q2x {α:Type} {x y: α} (h:¬ x=y):sq x y=false:=by
 cases hb:sq x y with
 | false=>rfl
 | true=>exact absurd (sq_iff.1 hb) h
theorem sq_yes {α:Type} (x: α):sq x x=true:=sq_iff.2 rfl
mutual
def noA:NT→NT
 | .mk op _ tx v ns ks=> .mk op 0 tx v ns (noAs ks)
def noAs:List NT→List NT
 | []=>[]
 | k::ks=>noA k::noAs ks
end
theorem noAs_len:∀ ks:List NT,(noAs ks).length=ks.length
 | []=>rfl
 | k::ks=>by rw [noAs,List.length_cons,List.length_cons,noAs_len ks]
theorem noAs_get:∀ (ks:List NT) (i:Nat) (h:i<ks.length),(noAs ks)[i]? =some (noA ks[i])
 | [],i,h=>absurd h (Nat.not_lt_zero _)
 | k::ks,0,h=>rfl
 | k::ks,i+1,h=>by
  rw [noAs];simpa using noAs_get ks i (by simpa using h)
theorem noAs_eq {xs ys:List NT} (hl:xs.length=ys.length) (h:∀ i,(h1:i<xs.length)→(h2:i<ys.length)→noA xs[i]=noA ys[i]):noAs xs=noAs ys:=by
 apply List.ext_getElem?;intro i;by_cases hi:i<xs.length
 · rw [noAs_get xs i hi,noAs_get ys i (by omega),h i hi (by omega)]
 · rw [List.getElem?_eq_none (by rw [noAs_len];omega),List.getElem?_eq_none (by rw [noAs_len];omega)]
theorem q1D {xs ys:List NT} (h:noAs xs=noAs ys):xs.length=ys.length:=by
 have:=congrArg List.length h;rwa [noAs_len,noAs_len] at this
theorem noAs_at {xs ys:List NT} (h:noAs xs=noAs ys) {i:Nat} (h1:i<xs.length) (h2:i<ys.length):noA xs[i]=noA ys[i]:=by
 have:=congrArg (fun l=>l[i]?) h;simp only [noAs_get xs i h1,noAs_get ys i h2,Option.some.injEq] at this;exact this
theorem noA_eq {A B:NT}:noA A=noA B↔A.op=B.op∧A.text=B.text∧A.value=B.value∧A.names=B.names∧noAs A.kids=noAs B.kids:=by
 obtain ⟨a,b,c,d,e,f⟩:=A;obtain ⟨a',b',c',d',e',f'⟩:=B;rw [noA,noA];simp only [NT.mk.injEq,NT.op,NT.text,NT.value,NT.names,NT.kids,true_and]
end Go.Proofs.YtbpopnafcpfifaaGreatDoor
namespace Go.Proofs.YtbpopnafcpfifaaGreatDoor
structure SE (ws ws':List Tok) (nb nb' a:Nat) (BD:Nat→Prop) (mv:Nat→Nat):Prop where
 tok:∀ t,t<ws.length→(hrP ws' (t+a)).kind=(hrP ws t).kind∧(hrP ws' (t+a)).text=(hrP ws t).text∧(hrP ws' (t+a)).at_=mv (hrP ws t).at_
 fin:(0<a∧(∀ e,¬ BD e)∧(hrP ws' (ws.length+a)).kind=10∧(hrP ws' (ws.length+a)).text=[41])∨(a=0∧ws'.length=ws.length∧nb'=mv nb)
 len:ws.length≤ws'.length
 bd0:¬ BD 0
section
variable {ws ws':List Tok} {nb nb' a:Nat} {BD:Nat→Prop} {mv:Nat→Nat}
def SV (ws:List Tok) (a:Nat) (BD:Nat→Prop) (mv:Nat→Nat) {α β:Type} (R: α→ β→Prop) (u:Nat) (r:Pr α) (r':Pr β):Prop:=match r with
 | .ok p t o=>(0<a∧∃ z,r'= .bad 172 z)∨(t≤ws.length∧o=u∧∃ q,r'= .ok q (t+a) (o+a)∧R p q)
 | .bad e z=>BD e→r'= .bad e (mv z)
variable {α β γ δ:Type} {R: α→ β→Prop} {S: γ→ δ→Prop}
theorem SV.then_ (E:SE ws ws' nb nb' a BD mv) {x:PM α} {y:PM β} {f: α→PM γ} {g: β→PM δ} {t o t2 o2 u v:Nat} (h:SV ws a BD mv R u (x t o) (y t2 o2)) (hf:∀ p q t',R p q→t'≤ws.length→SV ws a BD mv S v (f p t' u) (g q (t'+a) (u+a))):SV ws a BD mv S v (q07 x f t o) (q07 y g t2 o2):=by
 unfold q07
 cases hx:x t o with
 | ok p t' o'=>
  rw [hx] at h;rcases h with ⟨h1,z,h2⟩|⟨h1,rfl,q,h2,h3⟩
  · rw [h2];show SV ws a BD mv S v (f p t' o') (.bad 172 z);unfold SV
    cases f p t' o' with
    | ok p2 t2 o2=>exact .inl ⟨h1,z,rfl⟩
    | bad e z2=>
     intro hb;rcases E.fin with ⟨_,h5,_⟩|⟨h5,_⟩
     · exact absurd hb (h5 e)
     · omega
  · rw [h2];exact hf p q t' h3 h1
 | bad e z=>
  rw [hx] at h;intro hb;rw [h hb];rfl
theorem SV.ok_ {p: α} {q: β} {t o:Nat} (h:R p q) (ht:t≤ws.length):SV ws a BD mv R o (.ok p t o) (.ok q (t+a) (o+a)):= .inr ⟨ht,rfl,q,rfl,h⟩
theorem SV.mono {R': α→ β→Prop} {u:Nat} {r:Pr α} {r':Pr β} (h:SV ws a BD mv R u r r') (hR:∀ p q,R p q→R' p q):SV ws a BD mv R' u r r':=by
 cases r with
 | ok p t o=>
  rcases h with h|⟨h1,h2,q,h3,h4⟩
  · exact .inl h
  · exact .inr ⟨h1,h2,q,h3,hR _ _ h4⟩
 | bad e z=>exact h
def SuR {α β γ δ:Type} (R: α→ β→Prop) (S: γ→ δ→Prop): α ⊕ γ→ β ⊕ δ→Prop
 | .inl p,.inl q=>R p q
 | .inr p,.inr q=>S p q
 | _,_=>False
theorem SV.loop (E:SE ws ws' nb nb' a BD mv) {body: α→PM (α ⊕ γ)} {body': β→PM (β ⊕ δ)} {o:Nat} (hb:∀ p q t,R p q→t≤ws.length→SV ws a BD mv (SuR R S) o (body p t o) (body' q (t+a) (o+a))):∀ (f f':Nat),f≤f'→∀ p q t,R p q→t≤ws.length→SV ws a BD mv S o (lpP body f p t o) (lpP body' f' q (t+a) (o+a))
 | 0,f',_,p,q,t,_,_=>fun h=>absurd h E.bd0
 | f+1,0,hf,p,q,t,_,_=>by omega
 | f+1,f'+1,hf,p,q,t,hR,ht=>by
  rw [lpP,lpP];refine SV.then_ E (hb p q t hR ht) fun r r' t' hr ht'=> ?_
  match r,r',hr with
  | .inl p',.inl q',h=>exact SV.loop E hb f f' (by omega) p' q' t' h ht'
  | .inr p',.inr q',h=>exact SV.ok_ h ht'
def TkR (x y:Tok):Prop:=y.kind=x.kind∧y.text=x.text
theorem SE.at_ (E:SE ws ws' nb nb' a BD mv) {t:Nat} (h:t<ws.length):TkR (hrP ws t) (hrP ws' (t+a)):=⟨(E.tok t h).1,(E.tok t h).2.1⟩
theorem hr_end {ws:List Tok} {t:Nat} (h:ws.length≤t):hrP ws t=⟨0,0,0,[],0⟩:=by
 unfold hrP;rw [List.getD,List.getElem?_eq_none h];rfl
theorem sy_end {ws:List Tok} {t:Nat} {s:List UInt8} (h:ws.length≤t):syP ws t s=false:=by
 cases hc:syP ws t s with
 | false=>rfl
 | true=>have:=q0n hc;omega
theorem SE.sy (E:SE ws ws' nb nb' a BD mv) {t:Nat} (ht:t≤ws.length) {s:List UInt8} (hs:s≠[41]):syP ws' (t+a) s=syP ws t s:=by
 by_cases h:t<ws.length
 · unfold syP;rw [(E.at_ h).1,(E.at_ h).2]
 · rw [sy_end (ws:=ws) (by omega)];rcases E.fin with ⟨_,_,h1,h2⟩|⟨h1,h2,_⟩
   · unfold syP;rw [show t=ws.length by omega,h2,Bool.and_eq_false_iff];refine .inr ?_
     cases hb:([41]==s:Bool) with
     | false=>rfl
     | true=>exact absurd (eq_of_beq hb).symm hs
   · exact sy_end (by omega)
theorem SE.is_ (E:SE ws ws' nb nb' a BD mv) {t:Nat} (ht:t≤ws.length) {k:Nat} (hk:k≠0) (hk2:k≠10):isP ws' k (t+a)=isP ws k t:=by
 unfold isP;by_cases h:t<ws.length
 · rw [(E.at_ h).1]
 · have e:(hrP ws t).kind=0:=by rw [hr_end (by omega)]
   rw [e];rcases E.fin with ⟨_,_,h1,h2⟩|⟨h1,h2,_⟩
   · rw [show t=ws.length by omega,h1];rw [show ((10:Nat)==k)=false by rw [beq_eq_false_iff_ne];omega,show ((0:Nat)==k)=false by rw [beq_eq_false_iff_ne];omega]
   · rw [show (hrP ws' (t+a)).kind=0 by rw [hr_end (by omega)]]
theorem SV.ft (E:SE ws ws' nb nb' a BD mv) {R: α→ β→Prop} {t o u o2:Nat} (ht:t≤ws.length):SV ws a BD mv R u (pFt ws nb t o) (pFt ws' nb' (t+a) o2):=by
 show BD _→_;intro hb;rcases E.fin with ⟨_,h1,_⟩|⟨h1,h2,h3⟩
 · exact absurd hb (h1 _)
 · subst h1;show Pr.bad _ _=Pr.bad _ _;unfold ftE ftQ;rw [h2,Nat.add_zero];by_cases h:t=ws.length
   · rw [if_pos h,if_pos h,if_pos h,h3]
   · rw [if_neg h,if_neg h,if_neg h];have:=(E.tok t (by omega)).2.2;rw [Nat.add_zero] at this;rw [this]
theorem SV.take (E:SE ws ws' nb nb' a BD mv) {t o:Nat} (ht:t<ws.length):SV ws a BD mv TkR o (q0N ws t o) (q0N ws' (t+a) (o+a)):=by
 refine .inr ⟨by omega,rfl,_,?_,E.at_ ht⟩;show Pr.ok _ _ _=_;rw [show t+a+1=t+1+a by omega]
theorem SV.must (E:SE ws ws' nb nb' a BD mv) {t o:Nat} (s:List UInt8) (ht:t≤ws.length):SV ws a BD mv TkR o (q1B ws nb s t o) (q1B ws' nb' s (t+a) (o+a)):=by
 unfold q1B;by_cases h:syP ws t s=true
 · have hl:=q0n h
   have h':syP ws' (t+a) s=true:=by
    unfold syP at h ⊢;rwa [(E.at_ hl).1,(E.at_ hl).2]
   rw [if_pos h,if_pos h'];exact SV.take E hl
 · rw [if_neg h];by_cases h':syP ws' (t+a) s=true
   · intro hb;exfalso;by_cases hl:t<ws.length
     · unfold syP at h h';rw [(E.at_ hl).1,(E.at_ hl).2] at h';exact h h'
     · rcases E.fin with ⟨_,h1,_⟩|⟨h1,h2,_⟩
       · exact h1 _ hb
       · rw [sy_end (by omega)] at h'
         cases h'
   · rw [if_neg h'];exact SV.ft E ht
theorem SV.be (E:SE ws ws' nb nb' a BD mv) {t o:Nat} (k:Nat) (hk:k≠0) (hk2:k≠10) (ht:t≤ws.length):SV ws a BD mv TkR o (pBe ws nb k t o) (pBe ws' nb' k (t+a) (o+a)):=by
 unfold pBe;rw [E.is_ ht hk hk2];by_cases h:isP ws k t=true
 · rw [if_pos h,if_pos h];exact SV.take E (q1u hk h)
 · rw [if_neg h,if_neg h];exact SV.ft E ht
theorem SV.open_ (E:SE ws ws' nb nb' a BD mv) (ha:a≤1) {t o:Nat} (ht:t<ws.length):SV ws a BD mv TkR (o+1) (q2P ws t o) (q2P ws' (t+a) (o+a)):=by
 unfold q2P;by_cases h:o=64
 · rw [if_pos h];intro hb;rcases E.fin with ⟨_,h1,_⟩|⟨h1,h2,_⟩
   · exact absurd hb (h1 _)
   · rw [if_pos (by omega),(E.tok t ht).2.2]
 · rw [if_neg h];by_cases h':o+a=64
   · rw [if_pos h'];exact .inl ⟨by omega,_,rfl⟩
   · rw [if_neg h'];refine .inr ⟨by omega,rfl,_,?_,E.at_ ht⟩;rw [show t+a+1=t+1+a by omega,show o+a+1=o+1+a by omega]
theorem SV.enter (E:SE ws ws' nb nb' a BD mv) (ha:a≤1) {t o:Nat} (s:List UInt8) (hs:s≠[41]) (ht:t≤ws.length):SV ws a BD mv TkR (o+1) (q1o ws nb s t o) (q1o ws' nb' s (t+a) (o+a)):=by
 unfold q1o;rw [E.sy ht hs];by_cases h:syP ws t s=true
 · rw [if_pos h,if_pos h];exact SV.open_ E ha (q0n h)
 · rw [if_neg h,if_neg h];exact SV.ft E ht
theorem SV.leave (E:SE ws ws' nb nb' a BD mv) {t o:Nat} (s:List UInt8) (ht:t≤ws.length):SV ws a BD mv (fun _ _=>True) o (q0O ws nb s t (o+1)) (q0O ws' nb' s (t+a) (o+1+a)):=by
 unfold q0O;refine SV.then_ E (SV.must E s ht) fun p q t' _ ht'=> ?_;refine .inr ⟨ht',rfl,(),?_,trivial⟩;show Pr.ok _ _ _=_;rw [show o+1+a-1=o+a by omega,show o+1-1=o by omega]
end
section
variable {ws ws':List Tok} {nb nb' a:Nat} {BD:Nat→Prop} {mv:Nat→Nat} {α β:Type} {R: α→ β→Prop}
theorem SV.ite {c c':Prop} [Decidable c] [Decidable c'] {u:Nat} {A B:Pr α} {A' B':Pr β} (hc:c'↔c) (h1:c→SV ws a BD mv R u A A') (h2:¬ c→SV ws a BD mv R u B B'):SV ws a BD mv R u (if c then A else B) (if c' then A' else B'):=by
 by_cases h:c
 · rw [if_pos h,if_pos (hc.2 h)];exact h1 h
 · rw [if_neg h,if_neg (fun e=>h (hc.1 e))];exact h2 h
theorem SV.ok1 {p: α} {q: β} {t o:Nat} (h:R p q) (ht:t<ws.length):SV ws a BD mv R o (.ok p (t+1) o) (.ok q (t+a+1) (o+a)):=by
 rw [show t+a+1=t+1+a by omega];exact SV.ok_ h (by omega)
theorem SV.okm {p: α} {q: β} {t o:Nat} (h:R p q) (ht:t≤ws.length):SV ws a BD mv R o (.ok p t (o+1-1)) (.ok q (t+a) (o+1+a-1)):=by
 rw [show o+1+a-1=o+a by omega,show o+1-1=o by omega];exact SV.ok_ h ht
theorem SE.syi (E:SE ws ws' nb nb' a BD mv) {t:Nat} (ht:t≤ws.length) {s:List UInt8} (hs:s≠[41]):syP ws' (t+a) s=true↔syP ws t s=true:=by rw [E.sy ht hs]
theorem SE.isi (E:SE ws ws' nb nb' a BD mv) {t:Nat} (ht:t≤ws.length) {k:Nat} (hk:k≠0) (hk2:k≠10):isP ws' k (t+a)=true↔isP ws k t=true:=by rw [E.is_ ht hk hk2]
theorem SE.kd (E:SE ws ws' nb nb' a BD mv) {t:Nat} (ht:t≤ws.length) {k:Nat} (hk:k≠0) (hk2:k≠10):(hrP ws' (t+a)).kind=k↔(hrP ws t).kind=k:=by
 have:=E.isi ht hk hk2;unfold isP at this;rwa [beq_iff_eq,beq_iff_eq] at this
end
def NR (A B:NT):Prop:=noA A=noA B
def NRs (ks ls:List NT):Prop:=noAs ks=noAs ls
theorem q2q:∀ ks:List NT,noAs ks=ks.map noA
 | []=>rfl
 | k::ks=>by rw [noAs,q2q ks];rfl
theorem NRs.nil:NRs [] []:=rfl
theorem NRs.one {A B:NT} (h:NR A B):NRs [A] [B]:=by unfold NRs;rw [q2q,q2q];show [noA A]=[noA B];rw [show noA A=noA B from h]
theorem NRs.app {ks ls ms ns:List NT} (h:NRs ks ls) (h2:NRs ms ns):NRs (ks++ms) (ls++ns):=by
 unfold NRs at *;rw [q2q,q2q] at h h2;rw [q2q,q2q,List.map_append,List.map_append,h,h2]
theorem NRs.two {A B A' B':NT} (h:NR A B) (h2:NR A' B'):NRs [A,A'] [B,B']:=NRs.app (NRs.one h) (NRs.one h2)
theorem NRs.three {A B A' B' C D:NT} (h:NR A B) (h2:NR A' B') (h3:NR C D):NRs [A,A',C] [B,B',D]:=NRs.app (NRs.two h h2) (NRs.one h3)
theorem NR.mk {op at_ at2:Int} {tx:ByteArray} {v:VT} {ns:List ByteArray} {ks ls:List NT} (h:NRs ks ls):NR (.mk op at_ tx v ns ks) (.mk op at2 tx v ns ls):=by
 unfold NR;rw [noA,noA,show noAs ks=noAs ls from h]
theorem NR.nd {op:Int} {p q:Nat} {ks ls:List NT} (h:NRs ks ls):NR (ndP op p ks) (ndP op q ls):=NR.mk h
theorem NR.tx {op:Int} {p q:Nat} {tx:List UInt8} {ks ls:List NT} (h:NRs ks ls):NR (txP op p tx ks) (txP op q tx ls):=NR.mk h
theorem NR.cn {p q:Nat} {v:VT}:NR (cnP p v) (cnP q v):=NR.mk NRs.nil
theorem NR.said {x y:Tok} (h:TkR x y):NR (q0v x) (q0v y):=by unfold q0v;rw [h.2];exact NR.cn
theorem NR.var {x y:Tok} (h:TkR x y):NR (varP x) (varP y):=by unfold varP;rw [h.2];exact NR.tx NRs.nil
theorem NR.self {p q:Nat}:NR (q2B p) (q2B q):=NR.nd NRs.nil
theorem NR.idx {p q:Nat} {A B C D:NT} (h:NR A B) (h2:NR C D):NR (idxP p A C) (idxP q B D):=NR.nd (NRs.two h h2)
theorem NR.fld {x y:Tok} (h:TkR x y):NR (fldP x) (fldP y):=NR.idx NR.self (NR.said h)
theorem NR.addK {A B k l:NT} (h:NR A B) (h2:NR k l):NR (addK A k) (addK B l):=by
 obtain ⟨a1,a2,a3,a4,a5,a6⟩:=A;obtain ⟨b1,b2,b3,b4,b5,b6⟩:=B;have:=noA_eq.1 h;simp only [NT.op,NT.text,NT.value,NT.names,NT.kids] at this;obtain ⟨rfl,rfl,rfl,rfl,h3⟩:=this;exact NR.mk (NRs.app h3 (NRs.one h2))
theorem NR.within:∀ (ss rs:List NT) {A B:NT},NRs ss rs→NR A B→NR (q0q ss A) (q0q rs B)
 | [],[],A,B,_,h=>h
 | [],r::rs,A,B,h,_=>by have:=q1D h;simp at this
 | s::ss,[],A,B,h,_=>by have:=q1D h;simp at this
 | s::ss,r::rs,A,B,h,h2=>by
  unfold NRs at h;rw [noAs,noAs] at h;injection h with h3 h4;exact NR.addK h3 (NR.within ss rs h4 h2)
def SP (ws:List Tok) (a:Nat) (BD:Nat→Prop) (mv:Nat→Nat) {α β:Type} (R: α→ β→Prop) (x:PM α) (y:PM β):Prop:=∀ t o,t≤ws.length→SV ws a BD mv R o (x t o) (y (t+a) (o+a))
section
variable {ws ws':List Tok} {nb nb' a:Nat} {BD:Nat→Prop} {mv:Nat→Nat} {P P':PM NT} {O O':Nat→PM NT}
theorem s_group (E:SE ws ws' nb nb' a BD mv) (ha:a≤1) (hP:SP ws a BD mv NR P P'):SP ws a BD mv NR (q23 ws nb P) (q23 ws' nb' P'):=fun t o ht=>by
 unfold q23;exact SV.then_ E (SV.enter E ha [40] (by decide) ht) fun _ _ t1 _ h1=>SV.then_ E (hP t1 (o+1) h1) fun A B t2 hR h2=>SV.then_ E (SV.leave E [41] h2) fun _ _ t3 _ h3=>SV.ok_ hR h3
theorem s_list (E:SE ws ws' nb nb' a BD mv) (ha:a≤1) (hP:SP ws a BD mv NR P P'):SP ws a BD mv NR (listP ws nb P) (listP ws' nb' P'):=fun t o ht=>by
 unfold listP;refine SV.then_ E (SV.enter E ha [91] (by decide) ht) fun x y t1 hx h1=> ?_;refine SV.then_ (R:=NRs) E (u:=o+1) ?_ fun ks ls t2 hk h2=>SV.then_ E (SV.leave E [93] h2) fun _ _ t3 _ h3=>SV.ok_ (NR.nd hk) h3;exact SV.ite (E.syi h1 (by decide)) (fun _=>SV.ok_ NRs.nil h1) fun _=>SV.then_ E (hP t1 (o+1) h1) fun A B t2 hR h2=>SV.ok_ (NRs.one hR) h2
theorem s_text (E:SE ws ws' nb nb' a BD mv) (ha:a≤1) (hP:SP ws a BD mv NR P P'):SP ws a BD mv NR (q28 ws nb P) (q28 ws' nb' P'):=fun t o ht=>by
 unfold q28;refine SV.ite (E.isi ht (by decide) (by decide)) (fun hc=>SV.then_ E (SV.take E (q1u (by decide) hc)) fun x y t1 hx h1=>SV.ok_ (NR.said hx) h1) fun _=> ?_;refine SV.ite (E.isi ht (by decide) (by decide)) (fun hc=> ?_) fun _=>SV.ft E ht;refine SV.then_ E (SV.open_ E ha (q1u (by decide) hc)) fun x0 y0 t1 hx h1=> ?_;refine SV.then_ (R:=NRs) (u:=o+1) E ?_ fun ks ls t2 hk h2=>SV.then_ E (SV.be E 9 (by decide) (by decide) h2) fun x y t3 hx3 h3=>SV.okm (NR.nd (NRs.app hk (NRs.one (NR.said hx3)))) h3;refine SV.loop (R:=fun (p q:List NT × Tok)=>NRs p.1 q.1∧TkR p.2 q.2) E (fun p q t2 hR h2=> ?_) _ _ (by have:=E.len;omega) _ _ t1 ⟨NRs.nil,hx⟩ h1;refine SV.then_ E (hP t2 (o+1) h2) fun A B t3 hAB h3=> ?_;exact SV.ite (E.isi h3 (by decide) (by decide)) (fun hc=>SV.ok1 ⟨NRs.app hR.1 (NRs.two (NR.said hR.2) hAB),E.at_ (q1u (by decide) hc)⟩ (q1u (by decide) hc)) fun _=>SV.ok_ (show NRs _ _ from NRs.app hR.1 (NRs.two (NR.said hR.2) hAB)) h3
theorem s_pipes (E:SE ws ws' nb nb' a BD mv) (ha:a≤1) (hP:SP ws a BD mv NR P P') {ks ls:List NT} (hk:NRs ks ls) (least most:Nat):SP ws a BD mv NRs (q1U ws nb P ks least most) (q1U ws' nb' P' ls least most):=fun t o ht=>by
 unfold q1U;refine SV.then_ E (SV.enter E ha [40] (by decide) ht) fun x y t1 hx h1=> ?_;refine SV.then_ E (hP t1 (o+1) h1) fun A B t2 hAB h2=> ?_;refine SV.then_ (R:=NRs) (u:=o+1) E ?_ fun ks ls t2 hk h2=>SV.then_ E (SV.leave E [41] h2) fun _ _ t3 _ h3=>SV.ok_ hk h3;refine SV.loop (R:=fun (p q:Nat × List NT)=>p.1=q.1∧NRs p.2 q.2) E (fun p q t3 hR h3=> ?_) _ _ (by have:=E.len;omega) _ _ t2 ⟨rfl,NRs.app hk (NRs.one hAB)⟩ h2;refine SV.ite (by rw [hR.1]) (fun _=> ?_) fun _=>SV.ok_ (show NRs _ _ from hR.2) h3;refine SV.ite (by rw [hR.1,E.sy h3 (by decide)]) (fun _=>SV.ok_ (show NRs _ _ from hR.2) h3) fun _=> ?_;exact SV.then_ E (SV.must E [59] h3) fun _ _ t4 _ h4=>SV.then_ E (hP t4 (o+1) h4) fun C D t5 hCD h5=>SV.ok_ ⟨by rw [hR.1],NRs.app hR.2 (NRs.one hCD)⟩ h5
theorem s_branch (E:SE ws ws' nb nb' a BD mv) (hP:SP ws a BD mv NR P P') (p q:Nat):SP ws a BD mv NR (q1E ws nb P p) (q1E ws' nb' P' q):=fun t o ht=>by
 unfold q1E;exact SV.then_ E (hP t o ht) fun A B t1 h h1=>SV.then_ E (SV.must E _ h1) fun _ _ t2 _ h2=>SV.then_ E (hP t2 o h2) fun C D t3 hc h3=>SV.ok_ (NR.nd (NRs.two h hc)) h3
theorem s_choice (E:SE ws ws' nb nb' a BD mv) (ha:a≤1) (hP:SP ws a BD mv NR P P'):SP ws a BD mv NR (q1v ws nb P) (q1v ws' nb' P'):=fun t o ht=>by
 unfold q1v;refine SV.then_ E (SV.enter E ha _ (by decide) ht) fun x y t1 hx h1=> ?_;refine SV.then_ E (s_branch E hP _ _ t1 (o+1) h1) fun A B t2 hAB h2=> ?_;refine SV.then_ (R:=NRs) (u:=o+1) E ?_ fun bs cs t3 hb h3=> ?_
 · refine SV.loop (R:=NRs) E (fun p q t3 hR h3=> ?_) _ _ (by have:=E.len;omega) _ _ t2 (NRs.one hAB) h2;exact SV.ite (E.syi h3 (by decide)) (fun hc=>SV.then_ E (SV.take E (q0n hc)) fun _ _ t4 _ h4=>SV.then_ E (s_branch E hP _ _ t4 (o+1) h4) fun C D t5 hC h5=>SV.ok_ (show NRs _ _ from NRs.app hR (NRs.one hC)) h5) fun _=>SV.ok_ (show NRs _ _ from hR) h3
 · refine SV.then_ (R:=NR) (u:=o+1) E ?_ fun n m t4 hn h4=>SV.then_ E (SV.leave E _ h4) fun _ _ t5 _ h5=>SV.ok_ (NR.within _ _ hb hn) h5;exact SV.ite (E.syi h3 (by decide)) (fun hc=>SV.then_ E (SV.take E (q0n hc)) fun _ _ t4 _ h4=>hP t4 (o+1) h4) fun _=>SV.ok_ NR.self h3
theorem s_entry (E:SE ws ws' nb nb' a BD mv) (ha:a≤1) (hP:SP ws a BD mv NR P P') (hO:∀ l,1≤l→SP ws a BD mv NR (O l) (O' l)) {ks ls:List NT} (hk:NRs ks ls):SP ws a BD mv NRs (q1n ws nb P O ks) (q1n ws' nb' P' O' ls):=fun t o ht=>by
 unfold q1n;refine SV.ite (or_congr (E.kd ht (by decide) (by decide)) (or_congr (E.kd ht (by decide) (by decide)) (or_congr (E.kd ht (by decide) (by decide)) (E.kd ht (by decide) (by decide))))) (fun hc=> ?_) fun hc=> ?_
 · have hl:t<ws.length:=by
    rcases Nat.lt_or_ge t ws.length with h|h
    · exact h
    · rw [hr_end h] at hc;exact absurd hc (by decide)
   have hT:=E.at_ hl;rw [show t+a+1=t+1+a by omega];refine SV.ite (E.syi (by omega) (by decide)) (fun _=> ?_) fun _=>SV.ok_ (NRs.app hk (NRs.two (NR.said hT) ?_)) (by omega)
   · exact SV.then_ E (SV.must E [58] (by omega)) fun _ _ t2 _ h2=>SV.then_ E (hO 3 (by decide) t2 o h2) fun A B t3 hA h3=>SV.ok_ (NRs.app hk (NRs.two (NR.said hT) hA)) h3
   · by_cases h3:(hrP ws t).kind=3
     · rw [if_pos h3,if_pos (by rw [hT.1];exact h3)];exact NR.var hT
     · rw [if_neg h3,if_neg (by rw [hT.1];exact h3)];exact NR.fld hT
 · refine SV.then_ (R:=NR) (u:=o) E ?_ fun A B t1 hA h1=>SV.then_ E (SV.must E [58] h1) fun _ _ t2 _ h2=>SV.then_ E (hO 3 (by decide) t2 o h2) fun C D t3 hC h3=>SV.ok_ (NRs.app hk (NRs.two hA hC)) h3;by_cases h7:(hrP ws t).kind=7
   · rw [if_pos h7,if_pos ((E.kd ht (by decide) (by decide)).2 h7)];exact s_text E ha hP t o ht
   · rw [if_neg h7,if_neg (fun e=>h7 ((E.kd ht (by decide) (by decide)).1 e))];exact s_group E ha hP t o ht
theorem s_record (E:SE ws ws' nb nb' a BD mv) (ha:a≤1) (hP:SP ws a BD mv NR P P') (hO:∀ l,1≤l→SP ws a BD mv NR (O l) (O' l)):SP ws a BD mv NR (q1x ws nb P O) (q1x ws' nb' P' O'):=fun t o ht=>by
 unfold q1x;refine SV.then_ E (SV.enter E ha [123] (by decide) ht) fun x y t1 hx h1=> ?_;refine SV.then_ (R:=NRs) E (u:=o+1) ?_ fun ks ls t2 hk h2=>SV.then_ E (SV.leave E [125] h2) fun _ _ t3 _ h3=>SV.ok_ (NR.nd hk) h3;refine SV.ite (E.syi h1 (by decide)) (fun _=>SV.ok_ NRs.nil h1) fun _=> ?_;refine SV.then_ E (s_entry E ha hP hO NRs.nil t1 (o+1) h1) fun ks ls t2 hk h2=> ?_;refine SV.loop (R:=NRs) E (fun p q t3 hR h3=> ?_) _ _ (by have:=E.len;omega) _ _ t2 hk h2;exact SV.ite (E.syi h3 (by decide)) (fun hc=>SV.then_ E (SV.take E (q0n hc)) fun _ _ t4 _ h4=>SV.then_ E (s_entry E ha hP hO hR t4 (o+1) h4) fun C D t5 hC h5=>SV.ok_ (show NRs _ _ from hC) h5) fun _=>SV.ok_ (show NRs _ _ from hR) h3
theorem s_call (E:SE ws ws' nb nb' a BD mv) (ha:a≤1) (hP:SP ws a BD mv NR P P') {t o:Nat} (hl:t<ws.length):SV ws a BD mv NR o (callP ws nb P t o) (callP ws' nb' P' (t+a) (o+a)):=by
 unfold callP;refine SV.then_ E (SV.take E hl) fun x y t1 hx h1=> ?_;refine SV.ite (E.syi h1 (by decide)) (fun _=>SV.then_ E (s_pipes E ha hP NRs.nil 1 _ t1 o h1) fun ks ls t2 hk h2=> ?_) fun _=> ?_
 · rw [hx.2];exact SV.ok_ (NR.tx hk) h2
 · rw [hx.2];exact SV.ok_ (NR.tx NRs.nil) h1
theorem term_end {ws:List Tok} {nb:Nat} {P:PM NT} {O:Nat→PM NT} {t o:Nat} (h:ws.length≤t):q2d ws nb P O t o=pFt ws nb t o:=by
 unfold q2d;rw [hr_end h];rfl
theorem s_term (E:SE ws ws' nb nb' a BD mv) (ha:a≤1) (hP:SP ws a BD mv NR P P') (hO:∀ l,1≤l→SP ws a BD mv NR (O l) (O' l)):SP ws a BD mv NR (q2d ws nb P O) (q2d ws' nb' P' O'):=fun t o ht=>by
 by_cases hl:t<ws.length
 · have hT:=E.at_ hl;unfold q2d;dsimp only;rw [hT.1,hT.2];refine SV.ite Iff.rfl (fun _=> ?_) fun _=> ?_
   · refine SV.ite Iff.rfl (fun _=> ?_) fun _=> ?_
     · refine SV.then_ E (SV.take E hl) fun x y t1 hx h1=> ?_;exact SV.ite (by rw [E.is_ h1 (by decide) (by decide),E.is_ h1 (by decide) (by decide)]) (fun _=>SV.then_ E (s_text E ha hP t1 o h1) fun A B t2 hA h2=>SV.ok_ (NR.idx NR.self hA) h2) fun _=>SV.ok_ NR.self h1
     refine SV.ite Iff.rfl (fun _=>SV.ok1 (NR.tx NRs.nil) hl) fun _=> ?_;refine SV.ite Iff.rfl (fun _=>s_group E ha hP t o ht) fun _=> ?_;refine SV.ite Iff.rfl (fun _=>s_list E ha hP t o ht) fun _=> ?_;exact SV.ite Iff.rfl (fun _=>s_record E ha hP hO t o ht) fun _=>SV.ft E ht
   refine SV.ite Iff.rfl (fun _=> ?_) fun _=> ?_
   · refine SV.ite Iff.rfl (fun _=>SV.ok1 NR.cn hl) fun _=> ?_;refine SV.ite Iff.rfl (fun _=>SV.ok1 NR.cn hl) fun _=> ?_;refine SV.ite Iff.rfl (fun _=>SV.ok1 NR.cn hl) fun _=> ?_;refine SV.ite Iff.rfl (fun _=>s_choice E ha hP t o ht) fun _=> ?_;refine SV.ite Iff.rfl (fun _=>SV.then_ E (SV.take E hl) fun _ _ t1 _ h1=>SV.then_ E (SV.be E 3 (by decide) (by decide) h1) fun x y t2 hx h2=> ?_) fun _=>SV.ft E ht;rw [hx.2];exact SV.ok_ (NR.tx NRs.nil) h2
   refine SV.ite Iff.rfl (fun _=>SV.ok1 (NR.fld hT) hl) fun _=> ?_;refine SV.ite Iff.rfl (fun _=>SV.ok1 NR.cn hl) fun _=> ?_;refine SV.ite Iff.rfl (fun _=>s_text E ha hP t o ht) fun _=> ?_;refine SV.ite Iff.rfl (fun _=>SV.ok1 (NR.var hT) hl) fun _=> ?_;exact SV.ite Iff.rfl (fun _=>s_call E ha hP hl) fun _=>SV.ft E ht
 · rw [term_end (by omega)];intro hb;rcases E.fin with ⟨_,h1,_⟩|⟨h1,h2,h3⟩
   · exact absurd hb (h1 _)
   · rw [term_end (by omega)];exact SV.ft (R:=NR) (u:=o) (o2:=o+a) (o:=o) E ht hb
theorem s_bracket (E:SE ws ws' nb nb' a BD mv) (ha:a≤1) (hP:SP ws a BD mv NR P P') {A B:NT} (hA:NR A B):SP ws a BD mv NR (q1c ws nb P A) (q1c ws' nb' P' B):=fun t o ht=>by
 unfold q1c;refine SV.then_ E (SV.enter E ha [91] (by decide) ht) fun x y t1 hx h1=> ?_;refine SV.ite (E.syi h1 (by decide)) (fun _=>SV.then_ E (SV.leave E [93] h1) fun _ _ t2 _ h2=>SV.ok_ (NR.nd (NRs.one hA)) h2) fun _=> ?_;refine SV.ite (E.syi h1 (by decide)) (fun hc=>SV.then_ E (SV.take E (q0n hc)) fun _ _ t2 _ h2=>SV.then_ E (hP t2 (o+1) h2) fun C D t3 hC h3=>SV.then_ E (SV.leave E [93] h3) fun _ _ t4 _ h4=>SV.ok_ (NR.nd (NRs.three hA (NR.nd NRs.nil) hC)) h4) fun _=> ?_;refine SV.then_ E (hP t1 (o+1) h1) fun C D t2 hC h2=> ?_;refine SV.ite (E.syi h2 (by decide)) (fun _=>SV.then_ E (SV.leave E [93] h2) fun _ _ t3 _ h3=>SV.ok_ (NR.idx hA hC) h3) fun _=> ?_;refine SV.then_ E (SV.must E [58] h2) fun _ _ t3 _ h3=> ?_;exact SV.ite (E.syi h3 (by decide)) (fun _=>SV.then_ E (SV.leave E [93] h3) fun _ _ t4 _ h4=>SV.ok_ (NR.nd (NRs.three hA hC (NR.nd NRs.nil))) h4) fun _=>SV.then_ E (hP t3 (o+1) h3) fun F G t4 hF h4=>SV.then_ E (SV.leave E [93] h4) fun _ _ t5 _ h5=>SV.ok_ (NR.nd (NRs.three hA hC hF)) h5
theorem s_suffixed (E:SE ws ws' nb nb' a BD mv) (ha:a≤1) (hP:SP ws a BD mv NR P P') {A B:NT} (hA:NR A B):SP ws a BD mv NR (q0t ws nb P A) (q0t ws' nb' P' B):=fun t o ht=>by
 unfold q0t;refine SV.loop (R:=NR) E (fun p q t1 hR h1=> ?_) _ _ (by have:=E.len;omega) _ _ t hA ht;refine SV.ite (E.isi h1 (by decide) (by decide)) (fun hc=>SV.ok1 (show NR _ _ from NR.idx hR (NR.said (E.at_ (q1u (by decide) hc)))) (q1u (by decide) hc)) fun _=> ?_;refine SV.ite (E.syi h1 (by decide)) (fun hc=>SV.then_ E (SV.take E (q0n hc)) fun _ _ t2 _ h2=>SV.then_ E (s_text E ha hP t2 o h2) fun C D t3 hC h3=>SV.ok_ (show NR _ _ from NR.idx hR hC) h3) fun _=> ?_;refine SV.ite (E.syi h1 (by decide)) (fun hc=>SV.then_ E (s_bracket E ha hP hR t1 o h1) fun C D t2 hC h2=>SV.ok_ (show NR _ _ from hC) h2) fun _=> ?_;exact SV.ite (E.syi h1 (by decide)) (fun hc=>SV.ok1 (show NR _ _ from NR.nd (NRs.one hR)) (q0n hc)) fun _=>SV.ok_ (show NR _ _ from hR) h1
theorem s_finished (E:SE ws ws' nb nb' a BD mv) (ha:a≤1) (hP:SP ws a BD mv NR P P') {A B:NT} (hA:NR A B):SP ws a BD mv NR (q0l ws nb P A) (q0l ws' nb' P' B):=fun t o ht=>by
 have he:=noA_eq.1 hA;unfold q0l;rw [← he.1,← he.2.2.1,← he.2.2.2.1];by_cases hc:A.op=30∨A.op=31
 · rw [if_pos hc,if_pos hc];refine SV.then_ E (SV.must E _ ht) fun _ _ t1 _ h1=>SV.then_ E (SV.be E 3 (by decide) (by decide) h1) fun x y t2 hx h2=>SV.then_ E (s_pipes E ha hP he.2.2.2.2 2 _ t2 o h2) fun ks ls t3 hks h3=> ?_;rw [hx.2];exact SV.ok_ (NR.mk hks) h3
 · rw [if_neg hc,if_neg hc];exact SV.ok_ hA ht
theorem s_unwind (E:SE ws ws' nb nb' a BD mv) (ha:a≤1) (hP:SP ws a BD mv NR P P'):∀ (l l':List NT),NRs l l'→∀ {A B:NT},NR A B→SP ws a BD mv (SuR NRs NR) (q0A ws nb P l A) (q0A ws' nb' P' l' B)
 | [],[],_,A,B,h,t,o,ht=>SV.ok_ (show NR _ _ from h) ht
 | [],k::ks,hl,A,B,h,t,o,ht=>by have:=q1D hl;simp at this
 | k::ks,[],hl,A,B,h,t,o,ht=>by have:=q1D hl;simp at this
 | k::ks,j::js,hl,A,B,h,t,o,ht=>by
  have hl2:noA k=noA j∧noAs ks=noAs js:=by
   unfold NRs at hl;rw [noAs,noAs] at hl;injection hl with h1 h2;exact ⟨h1,h2⟩
  have hA:NR (addK k A) (addK j B):=NR.addK hl2.1 h;have he:=noA_eq.1 hA;rw [q0A,q0A];refine SV.ite (by rw [← he.1,← q1D he.2.2.2.2,E.sy ht (by decide)]) (fun hc=>SV.ok1 (show NRs _ _ from ?_) (q0n hc.2.2)) fun _=> ?_
  · unfold NRs;rw [noAs,noAs,show noA (addK k A)=noA (addK j B) from hA,hl2.2]
  · exact SV.then_ E (s_finished E ha hP hA t o ht) fun C D t1 hC h1=>SV.then_ E (s_suffixed E ha hP hC t1 o h1) fun F G t2 hF h2=>s_unwind E ha hP ks js hl2.2 hF t2 o h2
theorem s_await (E:SE ws ws' nb nb' a BD mv) {t:Nat} (ht:t≤ws.length):(∃ A B,q13 ws t=some A∧q13 ws' (t+a)=some B∧NR A B∧t<ws.length)∨(q13 ws t=none∧q13 ws' (t+a)=none):=by
 unfold q13;dsimp only;rw [E.sy ht (by decide),E.sy ht (by decide),E.sy ht (by decide)];by_cases h1:syP ws t [116,114,121]=true
 · rw [if_pos h1,if_pos h1];exact .inl ⟨_,_,rfl,rfl,NR.nd NRs.nil,q0n h1⟩
 rw [if_neg h1,if_neg h1];by_cases h2:syP ws t [114,101,100,117,99,101]=true
 · rw [if_pos h2,if_pos h2];exact .inl ⟨_,_,rfl,rfl,NR.nd NRs.nil,q0n h2⟩
 rw [if_neg h2,if_neg h2];by_cases h3:syP ws t [102,111,114,101,97,99,104]=true
 · rw [if_pos h3,if_pos h3];exact .inl ⟨_,_,rfl,rfl,NR.nd NRs.nil,q0n h3⟩
 rw [if_neg h3,if_neg h3];exact .inr ⟨rfl,rfl⟩
theorem NRs.cons {A B:NT} {ks ls:List NT} (h:NR A B) (h2:NRs ks ls):NRs (A::ks) (B::ls):=NRs.app (NRs.one h) h2
theorem s_post (E:SE ws ws' nb nb' a BD mv) (ha:a≤1) (hP:SP ws a BD mv NR P P') (hO:∀ l,1≤l→SP ws a BD mv NR (O l) (O' l)):SP ws a BD mv NR (postP ws nb P O) (postP ws' nb' P' O'):=fun t o ht=>by
 unfold postP;refine SV.loop (R:=NRs) E (fun p q t1 hR h1=> ?_) _ _ (by have:=E.len;omega) _ _ t NRs.nil ht;refine SV.then_ (R:=NRs) (u:=o) E ?_ fun bs cs t2 hb h2=>SV.then_ E (s_term E ha hP hO t2 o h2) fun A B t3 hA h3=>SV.then_ E (s_suffixed E ha hP hA t3 o h3) fun C D t4 hC h4=>s_unwind E ha hP bs cs hb hC t4 o h4;refine SV.loop (R:=NRs) E (fun p q t2 hR h2=> ?_) _ _ (by have:=E.len;omega) _ _ t1 hR h1;rcases s_await E h2 with ⟨A,B,e1,e2,hAB,hl⟩|⟨e1,e2⟩
 · rw [e1,e2];exact SV.ok1 (show NRs _ _ from NRs.cons hAB hR) hl
 · rw [e1,e2];exact SV.ok_ (show NRs _ _ from hR) h2
theorem s_unary (E:SE ws ws' nb nb' a BD mv) (ha:a≤1) (hP:SP ws a BD mv NR P P') (hO:∀ l,1≤l→SP ws a BD mv NR (O l) (O' l)):SP ws a BD mv NR (q26 ws nb P O) (q26 ws' nb' P' O'):=fun t o ht=>by
 unfold q26;refine SV.then_ (R:=NRs) (u:=o) E ?_ fun bs cs t2 hb h2=>SV.then_ E (s_post E ha hP hO t2 o h2) fun A B t3 hA h3=>SV.ok_ (NR.within _ _ hb hA) h3;refine SV.loop (R:=NRs) E (fun p q t2 hR h2=> ?_) _ _ (by have:=E.len;omega) _ _ t NRs.nil ht;exact SV.ite (E.syi h2 (by decide)) (fun hc=>SV.ok1 (show NRs _ _ from NRs.app hR (NRs.one (NR.nd NRs.nil))) (q0n hc)) fun _=>SV.ok_ (show NRs _ _ from hR) h2
theorem opz_end {ws:List Tok} {t:Nat} (h:ws.length≤t):opZ ws t=([],0,0,0):=by
 unfold opZ;rw [hr_end h];rfl
theorem s_opz (E:SE ws ws' nb nb' a BD mv) {t:Nat} (ht:t≤ws.length):opZ ws' (t+a)=opZ ws t:=by
 by_cases hl:t<ws.length
 · unfold opZ;dsimp only;rw [(E.at_ hl).1,(E.at_ hl).2]
 · rw [opz_end (ws:=ws) (by omega)];rcases E.fin with ⟨_,_,h1,h2⟩|⟨h1,h2,_⟩
   · unfold opZ;dsimp only;rw [show t=ws.length by omega,h1,h2];rfl
   · exact opz_end (by omega)
theorem opz_lt {ws:List Tok} {t:Nat} (h:(opZ ws t).2.2.1≠0):t<ws.length:=by
 rcases Nat.lt_or_ge t ws.length with h1|h1
 · exact h1
 · rw [opz_end h1] at h;exact absurd rfl h
theorem s_behind (E:SE ws ws' nb nb' a BD mv) (hO:∀ l,1≤l→SP ws a BD mv NR (O l) (O' l)) {least:Nat} (hl1:1≤least) {A B:NT} (hA:NR A B):SP ws a BD mv NR (q1q ws O least A) (q1q ws' O' least B):=fun t o ht=>by
 unfold q1q;refine SV.loop (R:=fun (p q:List NT × NT × Nat)=>NRs p.1 q.1∧NR p.2.1 q.2.1∧p.2.2=q.2.2) E (fun p q t1 hR h1=> ?_) _ _ (by have:=E.len;omega) _ _ t ⟨NRs.nil,hA,rfl⟩ ht;dsimp only;rw [s_opz E h1];refine SV.ite (by rw [hR.2.2]) (fun _=>SV.ok_ (show NR _ _ from NR.within _ _ hR.1 hR.2.1) h1) fun hc=> ?_;have hl:=opz_lt (ws:=ws) (t:=t1) (by omega);rw [show t1+a+1=t1+1+a by omega];refine SV.then_ E (hO _ (by omega) (t1+1) o (by omega)) fun C D t2 hC h2=> ?_;by_cases h3:(opZ ws t1).2.2.2=1
 · rw [if_pos h3,if_pos h3];exact SV.ok_ ⟨NRs.app hR.1 (NRs.one (NR.nd (NRs.one hR.2.1))),hC,rfl⟩ h2
 · rw [if_neg h3,if_neg h3];exact SV.ok_ ⟨NRs.nil,NR.nd (NRs.two (NR.within _ _ hR.1 hR.2.1) hC),rfl⟩ h2
theorem s_param (E:SE ws ws' nb nb' a BD mv):SP ws a BD mv (· = ·) (q1t ws nb) (q1t ws' nb'):=fun t o ht=>by
 unfold q1t;refine SV.ite (E.isi ht (by decide) (by decide)) (fun hc=> ?_) fun _=>SV.then_ E (SV.be E 1 (by decide) (by decide) ht) fun x y t1 hx h1=> ?_
 · rw [(E.at_ (q1u (by decide) hc)).2];exact SV.ok1 rfl (q1u (by decide) hc)
 · rw [hx.2];exact SV.ok_ rfl h1
theorem s_params (E:SE ws ws' nb nb' a BD mv) (ha:a≤1):SP ws a BD mv (· = ·) (q1C ws nb) (q1C ws' nb'):=fun t o ht=>by
 unfold q1C;refine SV.ite (E.syi ht (by decide)) (fun hc=> ?_) fun _=>SV.ok_ rfl ht;refine SV.then_ E (SV.enter E ha [40] (by decide) ht) fun x y t1 hx h1=> ?_;refine SV.then_ E (s_param E t1 (o+1) h1) fun p q t2 hp h2=> ?_;refine SV.then_ (R:=(· = ·)) (u:=o+1) E ?_ fun l m t3 hlm h3=>SV.then_ E (SV.leave E [41] h3) fun _ _ t4 _ h4=>SV.ok_ hlm h4;refine SV.loop (R:=(· = ·)) E (fun l m t3 hlm h3=> ?_) _ _ (by have:=E.len;omega) _ _ t2 (by rw [show p=q from hp]) h2;refine SV.ite (E.syi h3 (by decide)) (fun hc=>SV.then_ E (SV.take E (q0n hc)) fun _ _ t4 _ h4=>SV.then_ E (s_param E t4 (o+1) h4) fun b b' t5 hbb h5=>SV.ok_ (show _=_ from by rw [hlm,hbb]) h5) fun _=>SV.ok_ (show _=_ from hlm) h3
def LkR (p q:NT × Bool):Prop:=NR p.1 q.1∧p.2=q.2
theorem s_link (E:SE ws ws' nb nb' a BD mv) (ha:a≤1) (hP:SP ws a BD mv NR P P') (hO:∀ l,1≤l→SP ws a BD mv NR (O l) (O' l)):SP ws a BD mv LkR (q2C ws nb P O) (q2C ws' nb' P' O'):=fun t o ht=>by
 unfold q2C;refine SV.ite (E.syi ht (by decide)) (fun hc=> ?_) fun _=> ?_
 · refine SV.then_ E (SV.enter E ha _ (by decide) ht) fun x y t1 hx h1=>SV.then_ E (SV.be E 1 (by decide) (by decide) h1) fun x2 y2 t2 hx2 h2=>SV.then_ E (s_params E ha t2 (o+1) h2) fun l m t3 hlm h3=>SV.then_ E (SV.must E _ h3) fun _ _ t4 _ h4=>SV.then_ E (hP t4 (o+1) h4) fun A B t5 hA h5=>SV.then_ E (SV.leave E _ h5) fun _ _ t6 _ h6=> ?_;rw [hx2.2,show l=m from hlm];exact SV.ok_ ⟨NR.mk (NRs.one hA),rfl⟩ h6
 refine SV.ite (E.syi ht (by decide)) (fun hc=> ?_) fun _=> ?_
 · refine SV.then_ E (SV.take E (q0n hc)) fun x y t1 hx h1=>SV.then_ E (SV.be E 3 (by decide) (by decide) h1) fun x2 y2 t2 hx2 h2=>SV.then_ E (SV.must E _ h2) fun _ _ t3 _ h3=> ?_;rw [hx2.2];exact SV.ok_ ⟨NR.tx NRs.nil,rfl⟩ h3
 refine SV.then_ E (s_unary E ha hP hO t o ht) fun A B t1 hA h1=> ?_;refine SV.ite (by rw [E.sy ht (by decide),E.sy h1 (by decide)]) (fun hc=> ?_) fun _=> ?_
 · refine SV.then_ E (SV.take E (q0n hc.2)) fun x y t2 hx h2=>SV.then_ E (SV.be E 3 (by decide) (by decide) h2) fun x2 y2 t3 hx2 h3=>SV.then_ E (SV.must E _ h3) fun _ _ t4 _ h4=> ?_;rw [hx2.2];exact SV.ok_ ⟨NR.tx (NRs.one hA),rfl⟩ h4
 · refine SV.then_ E (s_behind E hO (Nat.le_refl 1) hA t1 o h1) fun C D t2 hC h2=> ?_;exact SV.ite (E.syi h2 (by decide)) (fun hc=>SV.ok1 ⟨NR.nd (NRs.one hC),rfl⟩ (q0n hc)) fun _=>SV.ok_ ⟨hC,rfl⟩ h2
theorem s_pipe (E:SE ws ws' nb nb' a BD mv) (ha:a≤1) (hP:SP ws a BD mv NR P P') (hO:∀ l,1≤l→SP ws a BD mv NR (O l) (O' l)):SP ws a BD mv NR (pipeP ws nb P O) (pipeP ws' nb' P' O'):=fun t o ht=>by
 unfold pipeP;refine SV.loop (R:=NRs) E (fun p q t1 hR h1=> ?_) _ _ (by have:=E.len;omega) _ _ t NRs.nil ht;refine SV.then_ E (s_link E ha hP hO t1 o h1) fun r r' t2 hr h2=> ?_;by_cases h:r.2=true
 · rw [if_pos h,if_pos (hr.2▸h)];exact SV.ok_ (show NRs _ _ from NRs.app hR (NRs.one hr.1)) h2
 · rw [if_neg h,if_neg (fun e=>h (hr.2.symm▸e))];exact SV.ok_ (show NR _ _ from NR.within _ _ hR hr.1) h2
theorem s_operand (E:SE ws ws' nb nb' a BD mv) (ha:a≤1) (hP:SP ws a BD mv NR P P') (hO:∀ l,1≤l→SP ws a BD mv NR (O l) (O' l)) {l:Nat} (hl:1≤l):SP ws a BD mv NR (q1I ws nb P O l) (q1I ws' nb' P' O' l):=fun t o ht=>by
 unfold q1I;exact SV.then_ E (s_unary E ha hP hO t o ht) fun A B t1 hA h1=>s_behind E hO hl hA t1 o h1
theorem s_po (E:SE ws ws' nb nb' a BD mv) (ha:a≤1):∀ (m m':Nat),m≤m'→SP ws a BD mv NR (poP ws nb m).1 (poP ws' nb' m').1∧∀ l,1≤l→SP ws a BD mv NR ((poP ws nb m).2 l) ((poP ws' nb' m').2 l)
 | 0,m',_=>⟨fun t o _ h=>absurd h E.bd0,fun l _ t o _ h=>absurd h E.bd0⟩
 | m+1,0,h=>by omega
 | m+1,m'+1,h=>by
  obtain ⟨h1,h2⟩:=s_po E ha m m' (by omega);exact ⟨s_pipe E ha h1 h2,fun l hl=>s_operand E ha h1 h2 hl⟩
end
def PV (n nb b:Nat) {α:Type} (r:Pr α):Prop:=match r with
 | .ok _ t _=>b≤t∧t≤n
 | .bad e z=>e≠0∧z≤nb
def PL (n nb b:Nat) {α β:Type} (r:Pr (α ⊕ β)):Prop:=match r with
 | .ok (.inl _) t _=>b<t∧t≤n
 | .ok (.inr _) t _=>b≤t∧t≤n
 | .bad e z=>e≠0∧z≤nb
section
variable {n nb b b1 m:Nat} {α β:Type}
theorem PV.then_ {x:PM α} {f: α→PM β} {t o:Nat} (h:PV n nb b1 (x t o)) (hf:∀ p t' o',b1≤t'→t'≤n→PV n nb b (f p t' o')):PV n nb b (q07 x f t o):=by
 unfold q07
 cases hx:x t o with
 | ok p t' o'=>rw [hx] at h;exact hf p t' o' h.1 h.2
 | bad e z=>rw [hx] at h;exact h
theorem PL.then_ {γ:Type} {x:PM γ} {f: γ→PM (α ⊕ β)} {t o:Nat} (h:PV n nb b1 (x t o)) (hf:∀ p t' o',b1≤t'→t'≤n→PL n nb b (f p t' o')):PL n nb b (q07 x f t o):=by
 unfold q07
 cases hx:x t o with
 | ok p t' o'=>rw [hx] at h;exact hf p t' o' h.1 h.2
 | bad e z=>rw [hx] at h;exact h
theorem PV.ok_ {a: α} {t o:Nat} (h1:b≤t) (h2:t≤n):PV n nb b (.ok a t o):=⟨h1,h2⟩
theorem PL.go {a: α} {t o:Nat} (h1:b<t) (h2:t≤n):PL n nb b (.ok (.inl a: α ⊕ β) t o):=⟨h1,h2⟩
theorem PL.no {a: β} {t o:Nat} (h1:b≤t) (h2:t≤n):PL n nb b (.ok (.inr a: α ⊕ β) t o):=⟨h1,h2⟩
theorem PV.ite {c:Prop} [Decidable c] {A B:Pr α} (h1:c→PV n nb b A) (h2:¬ c→PV n nb b B):PV n nb b (if c then A else B):=by
 by_cases h:c
 · rw [if_pos h];exact h1 h
 · rw [if_neg h];exact h2 h
theorem PL.ite {c:Prop} [Decidable c] {A B:Pr (α ⊕ β)} (h1:c→PL n nb b A) (h2:¬ c→PL n nb b B):PL n nb b (if c then A else B):=by
 by_cases h:c
 · rw [if_pos h];exact h1 h
 · rw [if_neg h];exact h2 h
theorem PV.loop {body: α→PM (α ⊕ β)} (hb:∀ p t o,m≤t→t≤n→PL n nb t (body p t o)):∀ (f:Nat) (p: α) (t o:Nat),m≤t→t≤n→n<t+f→PV n nb t (lpP body f p t o)
 | 0,p,t,o,_,_,h=>by omega
 | f+1,p,t,o,h1,h2,h3=>by
  rw [lpP];have h:=hb p t o h1 h2;unfold q07
  cases hx:body p t o with
  | bad e z=>rw [hx] at h;exact h
  | ok r t' o'=>
   rw [hx] at h
   cases r with
   | inl a=>
    have h4:t<t'∧t'≤n:=h;have:=PV.loop hb f a t' o' (by omega) h4.2 (by omega);show PV n nb t (lpP body f a t' o')
    cases hy:lpP body f a t' o' with
    | ok p2 t2 o2=>rw [hy] at this;exact ⟨by have:=this.1;omega,this.2⟩
    | bad e z=>rw [hy] at this;exact this
   | inr a=>exact h
theorem PV.low {b':Nat} {r:Pr α} (h:PV n nb b r) (hb:b'≤b):PV n nb b' r:=by
 cases r with
 | ok p t o=>exact ⟨by have:=h.1;omega,h.2⟩
 | bad e z=>exact h
end
section
def GA (ws:List Tok) (nb:Nat):Prop:=∀ t,(hrP ws t).at_≤nb
variable {ws:List Tok} {nb m b:Nat} {P:PM NT} {O:Nat→PM NT} {α:Type}
theorem PV.ft (G:GA ws nb) {t o:Nat}:PV ws.length nb b (pFt (α:= α) ws nb t o):=by
 show ftE ws t≠0∧ftQ ws nb t≤nb;unfold ftE ftQ
 split
 · exact ⟨by decide,Nat.le_refl _⟩
 · exact ⟨by decide,G t⟩
end
section
variable {ws:List Tok} {nb m b:Nat} {P:PM NT} {O:Nat→PM NT} {α:Type}
theorem PV.take {t o:Nat} (h:t<ws.length):PV ws.length nb (t+1) (q0N ws t o):=⟨Nat.le_refl _,h⟩
end
section
variable {ws:List Tok} {nb m b:Nat} {P:PM NT} {O:Nat→PM NT} {α:Type}
theorem PV.must (G:GA ws nb) {t o:Nat} (s:List UInt8):PV ws.length nb (t+1) (q1B ws nb s t o):=PV.ite (fun h=>PV.take (q0n h)) fun _=>PV.ft G
theorem PV.be (G:GA ws nb) {t o:Nat} (k:Nat) (hk:k≠0):PV ws.length nb (t+1) (pBe ws nb k t o):=PV.ite (fun h=>PV.take (q1u hk h)) fun _=>PV.ft G
theorem PV.open_ (G:GA ws nb) {t o:Nat} (h:t<ws.length):PV ws.length nb (t+1) (q2P ws t o):=PV.ite (fun _=>(⟨by decide,G _⟩:(172:Nat)≠0∧(hrP ws t).at_≤nb)) fun _=>⟨Nat.le_refl _,h⟩
theorem PV.enter (G:GA ws nb) {t o:Nat} (s:List UInt8):PV ws.length nb (t+1) (q1o ws nb s t o):=PV.ite (fun h=>PV.open_ G (q0n h)) fun _=>PV.ft G
theorem PV.leave (G:GA ws nb) {t o:Nat} (s:List UInt8):PV ws.length nb (t+1) (q0O ws nb s t o):=PV.then_ (PV.must G s) fun _ t1 _ h1 g1=>⟨h1,g1⟩
def VP (ws:List Tok) (nb m:Nat) {α:Type} (x:PM α):Prop:=∀ t o,m≤t→t≤ws.length→PV ws.length nb t (x t o)
theorem v_group (G:GA ws nb) (hP:VP ws nb (m+1) P):VP ws nb m (q23 ws nb P):=fun t o hm ht=>
 PV.then_ (PV.enter G [40]) fun _ t1 _ h1 g1=>PV.then_ (hP t1 _ (by omega) g1) fun _ t2 _ h2 g2=>PV.then_ (PV.leave G [41]) fun _ t3 _ h3 g3=>PV.ok_ (by omega) g3
theorem v_list (G:GA ws nb) (hP:VP ws nb (m+1) P):VP ws nb m (listP ws nb P):=fun t o hm ht=>
 PV.then_ (PV.enter G [91]) fun x t1 o1 h1 g1=>PV.then_ (b1:=t1) (PV.ite (fun _=>PV.ok_ (Nat.le_refl _) g1) fun _=>PV.then_ (hP t1 _ (by omega) g1) fun _ t2 _ h2 g2=>PV.ok_ h2 g2) fun _ t2 _ h2 g2=>PV.then_ (PV.leave G [93]) fun _ t3 _ h3 g3=>PV.ok_ (by omega) g3
theorem v_text (G:GA ws nb) (hP:VP ws nb (m+1) P):VP ws nb m (q28 ws nb P):=fun t o hm ht=>by
 unfold q28;refine PV.ite (fun hc=>PV.then_ (PV.take (q1u (by decide) hc)) fun x t1 _ h1 g1=>PV.ok_ (by omega) g1) fun _=> ?_;refine PV.ite (fun hc=> ?_) fun _=>PV.ft G;refine PV.then_ (PV.open_ G (q1u (by decide) hc)) fun x0 t1 o1 h1 g1=> ?_;refine PV.then_ (b1:=t1) (PV.loop (m:=m+1) (fun p t2 o2 h2 g2=> ?_) _ _ t1 o1 (by omega) g1 (by omega)) fun ks t2 o2 h2 g2=>PV.then_ (PV.be G 9 (by decide)) fun x t3 o3 h3 g3=>PV.ok_ (by omega) g3;exact PL.then_ (hP t2 o2 h2 g2) fun A t3 o3 h3 g3=>PL.ite (fun hc=>PL.go (by omega) (q1u (by decide) hc)) fun _=>PL.no h3 g3
theorem v_pipes (G:GA ws nb) (hP:VP ws nb (m+1) P) (ks:List NT) (least most:Nat):VP ws nb m (q1U ws nb P ks least most):=fun t o hm ht=>by
 unfold q1U;refine PV.then_ (PV.enter G [40]) fun x t1 o1 h1 g1=>PV.then_ (hP t1 o1 (by omega) g1) fun A t2 o2 h2 g2=> ?_;refine PV.then_ (b1:=t2) (PV.loop (m:=m+1) (fun p t3 o3 h3 g3=> ?_) _ _ t2 o2 (by omega) g2 (by omega)) fun ks t3 o3 h3 g3=>PV.then_ (PV.leave G [41]) fun _ t4 _ h4 g4=>PV.ok_ (by omega) g4;refine PL.ite (fun _=> ?_) fun _=>PL.no (Nat.le_refl _) g3;refine PL.ite (fun _=>PL.no (Nat.le_refl _) g3) fun _=> ?_;exact PL.then_ (PV.must G [59]) fun _ t4 o4 h4 g4=>PL.then_ (hP t4 o4 (by omega) g4) fun C t5 o5 h5 g5=>PL.go (by omega) g5
theorem v_branch (G:GA ws nb) (hP:VP ws nb (m+1) P) (p:Nat):VP ws nb (m+1) (q1E ws nb P p):=fun t o hm ht=>
 PV.then_ (hP t o hm ht) fun _ t1 o1 h1 g1=>PV.then_ (PV.must G _) fun _ t2 o2 h2 g2=>PV.then_ (hP t2 o2 (by omega) g2) fun _ t3 o3 h3 g3=>PV.ok_ (by omega) g3
theorem v_choice (G:GA ws nb) (hP:VP ws nb (m+1) P):VP ws nb m (q1v ws nb P):=fun t o hm ht=>by
 unfold q1v;refine PV.then_ (PV.enter G _) fun x t1 o1 h1 g1=>PV.then_ (v_branch G hP _ t1 o1 (by omega) g1) fun A t2 o2 h2 g2=> ?_;refine PV.then_ (b1:=t2) (PV.loop (m:=m+1) (fun p t3 o3 h3 g3=> ?_) _ _ t2 o2 (by omega) g2 (by omega)) fun bs t3 o3 h3 g3=> ?_
 · exact PL.ite (fun hc=>PL.then_ (PV.take (q0n hc)) fun _ t4 o4 h4 g4=>PL.then_ (v_branch G hP _ t4 o4 (by omega) g4) fun C t5 o5 h5 g5=>PL.go (by omega) g5) fun _=>PL.no (Nat.le_refl _) g3
 · exact PV.then_ (b1:=t3) (PV.ite (fun hc=>PV.then_ (PV.take (q0n hc)) fun _ t4 o4 h4 g4=>(hP t4 o4 (by omega) g4).low (by omega)) fun _=>PV.ok_ (Nat.le_refl _) g3) fun A t4 o4 h4 g4=>PV.then_ (PV.leave G _) fun _ t5 _ h5 g5=>PV.ok_ (by omega) g5
theorem v_entry (G:GA ws nb) (hP:VP ws nb (m+1) P) (hO:∀ l,1≤l→VP ws nb (m+1) (O l)) (ks:List NT):VP ws nb m (q1n ws nb P O ks):=fun t o hm ht=>by
 unfold q1n;refine PV.ite (fun hc=> ?_) fun hc=> ?_
 · have hl:t<ws.length:=by
    rcases Nat.lt_or_ge t ws.length with h|h
    · exact h
    · rw [hr_end h] at hc;exact absurd hc (by decide)
   exact PV.ite (fun _=>PV.then_ (PV.must G [58]) fun _ t2 o2 h2 g2=>PV.then_ (hO 3 (by decide) t2 o2 (by omega) g2) fun A t3 o3 h3 g3=>PV.ok_ (by omega) g3) fun _=>PV.ok_ (by omega) hl
 · refine PV.then_ (b1:=t) ?_ fun A t1 o1 h1 g1=>PV.then_ (PV.must G [58]) fun _ t2 o2 h2 g2=>PV.then_ (hO 3 (by decide) t2 o2 (by omega) g2) fun C t3 o3 h3 g3=>PV.ok_ (by omega) g3
   split
   · exact v_text G hP t o hm ht
   · exact v_group G hP t o hm ht
theorem v_record (G:GA ws nb) (hP:VP ws nb (m+1) P) (hO:∀ l,1≤l→VP ws nb (m+1) (O l)):VP ws nb m (q1x ws nb P O):=fun t o hm ht=>by
 unfold q1x;refine PV.then_ (PV.enter G [123]) fun x t1 o1 h1 g1=> ?_;refine PV.then_ (b1:=t1) (PV.ite (fun _=>PV.ok_ (Nat.le_refl _) g1) fun _=> ?_) fun ks t2 o2 h2 g2=>PV.then_ (PV.leave G [125]) fun _ t3 _ h3 g3=>PV.ok_ (by omega) g3;refine PV.then_ (v_entry G hP hO [] t1 o1 (by omega) g1) fun ks t2 o2 h2 g2=>PV.low (b:=t2) ?_ h2;refine PV.loop (m:=m) (fun p t3 o3 h3 g3=> ?_) _ _ t2 o2 (by omega) g2 (by omega);exact PL.ite (fun hc=>PL.then_ (PV.take (q0n hc)) fun _ t4 o4 h4 g4=>PL.then_ (v_entry G hP hO p t4 o4 (by omega) g4) fun C t5 o5 h5 g5=>PL.go (by omega) g5) fun _=>PL.no (Nat.le_refl _) g3
theorem v_call (G:GA ws nb) (hP:VP ws nb (m+1) P) {t o:Nat} (hm:m≤t) (hl:t<ws.length):PV ws.length nb t (callP ws nb P t o):=by
 unfold callP;exact PV.then_ (PV.take hl) fun x t1 o1 h1 g1=>PV.ite (fun _=>PV.then_ (v_pipes G hP _ 1 _ t1 o1 (by omega) g1) fun ks t2 o2 h2 g2=>PV.ok_ (by omega) g2) fun _=>PV.ok_ (by omega) g1
theorem v_term (G:GA ws nb) (hP:VP ws nb (m+1) P) (hO:∀ l,1≤l→VP ws nb (m+1) (O l)):VP ws nb m (q2d ws nb P O):=fun t o hm ht=>by
 rcases Nat.lt_or_ge t ws.length with hl|hl
 · unfold q2d;dsimp only;refine PV.ite (fun _=> ?_) fun _=> ?_
   · refine PV.ite (fun _=>PV.then_ (PV.take hl) fun x t1 o1 h1 g1=>PV.ite (fun _=>PV.then_ (v_text G hP t1 o1 (by omega) g1) fun A t2 o2 h2 g2=>PV.ok_ (by omega) g2) fun _=>PV.ok_ (by omega) g1) fun _=> ?_;refine PV.ite (fun _=>PV.ok_ (by omega) hl) fun _=> ?_;refine PV.ite (fun _=>v_group G hP t o hm ht) fun _=> ?_;refine PV.ite (fun _=>v_list G hP t o hm ht) fun _=> ?_;exact PV.ite (fun _=>v_record G hP hO t o hm ht) fun _=>PV.ft G
   refine PV.ite (fun _=> ?_) fun _=> ?_
   · refine PV.ite (fun _=>PV.ok_ (by omega) hl) fun _=> ?_;refine PV.ite (fun _=>PV.ok_ (by omega) hl) fun _=> ?_;refine PV.ite (fun _=>PV.ok_ (by omega) hl) fun _=> ?_;refine PV.ite (fun _=>v_choice G hP t o hm ht) fun _=> ?_;exact PV.ite (fun _=>PV.then_ (PV.take hl) fun _ t1 o1 h1 g1=>PV.then_ (PV.be G 3 (by decide)) fun x t2 o2 h2 g2=>PV.ok_ (by omega) g2) fun _=>PV.ft G
   refine PV.ite (fun _=>PV.ok_ (by omega) hl) fun _=> ?_;refine PV.ite (fun _=>PV.ok_ (by omega) hl) fun _=> ?_;refine PV.ite (fun _=>v_text G hP t o hm ht) fun _=> ?_;refine PV.ite (fun _=>PV.ok_ (by omega) hl) fun _=> ?_;exact PV.ite (fun _=>v_call G hP hm hl) fun _=>PV.ft G
 · have e:q2d ws nb P O t o=pFt ws nb t o:=by
    unfold q2d;rw [hr_end hl];rfl
   rw [e];exact PV.ft G
theorem v_bracket (G:GA ws nb) (hP:VP ws nb (m+1) P) (A:NT) {t o:Nat} (hm:m≤t) (ht:t≤ws.length):PV ws.length nb (t+1) (q1c ws nb P A t o):=by
 unfold q1c;refine PV.then_ (PV.enter G [91]) fun x t1 o1 h1 g1=> ?_;refine PV.ite (fun _=>PV.then_ (PV.leave G [93]) fun _ t2 _ h2 g2=>PV.ok_ (by omega) g2) fun _=> ?_;refine PV.ite (fun hc=>PV.then_ (PV.take (q0n hc)) fun _ t2 o2 h2 g2=>PV.then_ (hP t2 o2 (by omega) g2) fun C t3 o3 h3 g3=>PV.then_ (PV.leave G [93]) fun _ t4 _ h4 g4=>PV.ok_ (by omega) g4) fun _=> ?_;refine PV.then_ (hP t1 o1 (by omega) g1) fun C t2 o2 h2 g2=> ?_;refine PV.ite (fun _=>PV.then_ (PV.leave G [93]) fun _ t3 _ h3 g3=>PV.ok_ (by omega) g3) fun _=> ?_;refine PV.then_ (PV.must G [58]) fun _ t3 o3 h3 g3=> ?_;exact PV.ite (fun _=>PV.then_ (PV.leave G [93]) fun _ t4 _ h4 g4=>PV.ok_ (by omega) g4) fun _=>PV.then_ (hP t3 o3 (by omega) g3) fun F t4 o4 h4 g4=>PV.then_ (PV.leave G [93]) fun _ t5 _ h5 g5=>PV.ok_ (by omega) g5
theorem v_suffixed (G:GA ws nb) (hP:VP ws nb (m+1) P) (A:NT):VP ws nb m (q0t ws nb P A):=fun t o hm ht=>by
 unfold q0t;refine PV.loop (m:=m) (fun p t1 o1 h1 g1=> ?_) _ _ t o hm ht (by omega);refine PL.ite (fun hc=>PL.go (by omega) (q1u (by decide) hc)) fun _=> ?_;refine PL.ite (fun hc=>PL.then_ (PV.take (q0n hc)) fun _ t2 o2 h2 g2=>PL.then_ (v_text G hP t2 o2 (by omega) g2) fun C t3 o3 h3 g3=>PL.go (by omega) g3) fun _=> ?_;refine PL.ite (fun hc=>PL.then_ (v_bracket G hP p h1 g1) fun C t2 o2 h2 g2=>PL.go (by omega) g2) fun _=> ?_;exact PL.ite (fun hc=>PL.go (by omega) (q0n hc)) fun _=>PL.no (Nat.le_refl _) g1
theorem v_finished (G:GA ws nb) (hP:VP ws nb (m+1) P) (A:NT):VP ws nb m (q0l ws nb P A):=fun t o hm ht=>by
 unfold q0l
 split
 · exact PV.then_ (PV.must G _) fun _ t1 o1 h1 g1=>PV.then_ (PV.be G 3 (by decide)) fun x t2 o2 h2 g2=>PV.then_ (v_pipes G hP _ 2 _ t2 o2 (by omega) g2) fun ks t3 o3 h3 g3=>PV.ok_ (by omega) g3
 · exact PV.ok_ (Nat.le_refl _) ht
theorem v_unwind (G:GA ws nb) (hP:VP ws nb (m+1) P):∀ (l:List NT) (A:NT) (t o:Nat),m≤t→t≤ws.length→PL ws.length nb t (q0A ws nb P l A t o)
 | [],A,t,o,hm,ht=>PL.no (Nat.le_refl _) ht
 | k::ks,A,t,o,hm,ht=>by
  rw [q0A];refine PL.ite (fun hc=>PL.go (by omega) (q0n hc.2.2)) fun _=> ?_;refine PL.then_ (v_finished G hP _ t o hm ht) fun B t1 o1 h1 g1=>PL.then_ (v_suffixed G hP B t1 o1 (by omega) g1) fun C t2 o2 h2 g2=> ?_;have:=v_unwind G hP ks C t2 o2 (by omega) g2
  cases hy:q0A ws nb P ks C t2 o2 with
  | bad e z=>rw [hy] at this;exact this
  | ok r t3 o3=>
   rw [hy] at this
   cases r with
   | inl a=>exact ⟨by have:=this.1;omega,this.2⟩
   | inr a=>exact ⟨by have:=this.1;omega,this.2⟩
theorem PL.low {n nb b b':Nat} {α β:Type} {r:Pr (α ⊕ β)} (h:PL n nb b r) (hb:b'≤b):PL n nb b' r:=by
 cases r with
 | bad e z=>exact h
 | ok p t o=>
  cases p with
  | inl a=>exact ⟨by have:=h.1;omega,h.2⟩
  | inr a=>exact ⟨by have:=h.1;omega,h.2⟩
theorem await_ltE {t:Nat} {A:NT} (h:q13 ws t=some A):t<ws.length:=by
 rcases Nat.lt_or_ge t ws.length with hl|hl
 · exact hl
 · unfold q13 at h;dsimp only at h;rw [sy_end hl,sy_end hl,sy_end hl] at h
   cases h
theorem v_post (G:GA ws nb) (hP:VP ws nb (m+1) P) (hO:∀ l,1≤l→VP ws nb (m+1) (O l)):VP ws nb m (postP ws nb P O):=fun t o hm ht=>by
 unfold postP;refine PV.loop (m:=m) (fun p t1 o1 h1 g1=> ?_) _ _ t o hm ht (by omega);refine PL.then_ (b1:=t1) (PV.loop (m:=m) (fun q t2 o2 h2 g2=> ?_) _ _ t1 o1 h1 g1 (by omega)) fun bs t2 o2 h2 g2=>PL.then_ (v_term G hP hO t2 o2 (by omega) g2) fun A t3 o3 h3 g3=>PL.then_ (v_suffixed G hP A t3 o3 (by omega) g3) fun C t4 o4 h4 g4=>(v_unwind G hP bs C t4 o4 (by omega) g4).low (by omega)
 cases hA:q13 ws t2 with
 | some A=>exact PL.go (by omega) (await_ltE hA)
 | none=>exact PL.no (Nat.le_refl _) g2
theorem v_unary (G:GA ws nb) (hP:VP ws nb (m+1) P) (hO:∀ l,1≤l→VP ws nb (m+1) (O l)):VP ws nb m (q26 ws nb P O):=fun t o hm ht=>by
 unfold q26;refine PV.then_ (b1:=t) (PV.loop (m:=m) (fun q t2 o2 h2 g2=> ?_) _ _ t o hm ht (by omega)) fun bs t2 o2 h2 g2=>PV.then_ (v_post G hP hO t2 o2 (by omega) g2) fun A t3 o3 h3 g3=>PV.ok_ (by omega) g3;exact PL.ite (fun hc=>PL.go (by omega) (q0n hc)) fun _=>PL.no (Nat.le_refl _) g2
theorem opz_ltE {t:Nat} (h:(opZ ws t).2.2.1≠0):t<ws.length:=by
 rcases Nat.lt_or_ge t ws.length with h1|h1
 · exact h1
 · have e:opZ ws t=([],0,0,0):=by
    unfold opZ;rw [hr_end h1];rfl
   rw [e] at h;exact absurd rfl h
end
section
variable {ws:List Tok} {nb m b:Nat} {P:PM NT} {O:Nat→PM NT} {α:Type}
theorem v_behind (G:GA ws nb) (hO:∀ l,1≤l→VP ws nb (m+1) (O l)) {least:Nat} (hl1:1≤least) (A:NT):VP ws nb m (q1q ws O least A):=fun t o hm ht=>by
 unfold q1q;refine PV.loop (m:=m) (fun p t1 o1 h1 g1=> ?_) _ _ t o hm ht (by omega);dsimp only;refine PL.ite (fun _=>PL.no (Nat.le_refl _) g1) fun hc=> ?_;have hl:=opz_ltE (ws:=ws) (t:=t1) (by omega);refine PL.then_ (hO _ (by omega) (t1+1) o1 (by omega) hl) fun C t2 o2 h2 g2=> ?_
 split
 · exact PL.go (by omega) g2
 · exact PL.go (by omega) g2
end
section
variable {ws:List Tok} {nb m b:Nat} {P:PM NT} {O:Nat→PM NT} {α:Type}
theorem v_param (G:GA ws nb):VP ws nb m (q1t ws nb):=fun t o hm ht=>by
 unfold q1t;exact PV.ite (fun hc=>PV.ok_ (by omega) (q1u (by decide) hc)) fun _=>PV.then_ (PV.be G 1 (by decide)) fun x t1 o1 h1 g1=>PV.ok_ (by omega) g1
theorem v_params (G:GA ws nb):VP ws nb m (q1C ws nb):=fun t o hm ht=>by
 unfold q1C;refine PV.ite (fun hc=> ?_) fun _=>PV.ok_ (Nat.le_refl _) ht;refine PV.then_ (PV.enter G [40]) fun x t1 o1 h1 g1=>PV.then_ (v_param G (m:=m) t1 o1 (by omega) g1) fun p t2 o2 h2 g2=> ?_;refine PV.then_ (b1:=t2) (PV.loop (m:=m) (fun q t3 o3 h3 g3=> ?_) _ _ t2 o2 (by omega) g2 (by omega)) fun l t3 o3 h3 g3=>PV.then_ (PV.leave G [41]) fun _ t4 _ h4 g4=>PV.ok_ (by omega) g4;exact PL.ite (fun hc=>PL.then_ (PV.take (q0n hc)) fun _ t4 o4 h4 g4=>PL.then_ (v_param G (m:=m) t4 o4 (by omega) g4) fun b t5 o5 h5 g5=>PL.go (by omega) g5) fun _=>PL.no (Nat.le_refl _) g3
theorem v_link (G:GA ws nb) (hP:VP ws nb (m+1) P) (hO:∀ l,1≤l→VP ws nb (m+1) (O l)) {t o:Nat} (hm:m≤t) (ht:t≤ws.length):match q2C ws nb P O t o with
 | .ok r t' _=>(r.2=true→t<t')∧t≤t'∧t'≤ws.length
 | .bad e z=>e≠0∧z≤nb:=by
 have key:∀ {γ:Type} {x:PM γ} {f: γ→PM (NT × Bool)} {t0 o0 b1:Nat},PV ws.length nb b1 (x t0 o0)→(∀ p t' o',b1≤t'→t'≤ws.length→(match f p t' o' with
  | .ok r t' _=>(r.2=true→t<t')∧t≤t'∧t'≤ws.length
  | .bad e z=>e≠0∧z≤nb))→(match q07 x f t0 o0 with
  | .ok r t' _=>(r.2=true→t<t')∧t≤t'∧t'≤ws.length
  | .bad e z=>e≠0∧z≤nb):=by
  intro γ x f t0 o0 b1 h hf;unfold q07
  cases hx:x t0 o0 with
  | ok p t' o'=>rw [hx] at h;exact hf p t' o' h.1 h.2
  | bad e z=>rw [hx] at h;exact h
 unfold q2C;by_cases h1:syP ws t [100,101,102]=true
 · rw [if_pos h1];exact key (PV.enter G _) fun x t1 o1 h1 g1=>key (PV.be G 1 (by decide)) fun x2 t2 o2 h2 g2=>key (v_params G (m:=m) t2 o2 (by omega) g2) fun l t3 o3 h3 g3=>key (PV.must G _) fun _ t4 o4 h4 g4=>key (hP t4 o4 (by omega) g4) fun A t5 o5 h5 g5=>key (PV.leave G _) fun _ t6 o6 h6 g6=>⟨fun _=>by omega,by omega,g6⟩
 rw [if_neg h1];by_cases h2:syP ws t [108,97,98,101,108]=true
 · rw [if_pos h2];exact key (PV.take (q0n h2)) fun x t1 o1 h1 g1=>key (PV.be G 3 (by decide)) fun x2 t2 o2 h2 g2=>key (PV.must G _) fun _ t3 o3 h3 g3=>⟨fun _=>by omega,by omega,g3⟩
 rw [if_neg h2];refine key (v_unary G hP hO t o hm ht) fun A t1 o1 h1 g1=> ?_;by_cases h3:syP ws t [45]=false∧syP ws t1 [97,115]=true
 · rw [if_pos h3];exact key (PV.take (q0n h3.2)) fun x t2 o2 h2 g2=>key (PV.be G 3 (by decide)) fun x2 t3 o3 h3 g3=>key (PV.must G _) fun _ t4 o4 h4 g4=>⟨fun _=>by omega,by omega,g4⟩
 · rw [if_neg h3];refine key (v_behind G (m:=m) hO (Nat.le_refl 1) A t1 o1 (by omega) g1) fun C t2 o2 h2 g2=> ?_;by_cases h4:syP ws t2 [124]=true
   · rw [if_pos h4];have:=q0n h4;exact ⟨fun _=>by omega,by omega,this⟩
   · rw [if_neg h4];exact ⟨(fun h=>by cases h),by omega,g2⟩
theorem v_pipe (G:GA ws nb) (hP:VP ws nb (m+1) P) (hO:∀ l,1≤l→VP ws nb (m+1) (O l)):VP ws nb m (pipeP ws nb P O):=fun t o hm ht=>by
 unfold pipeP;refine PV.loop (m:=m) (fun p t1 o1 h1 g1=> ?_) _ _ t o hm ht (by omega);have h:=v_link G (nb:=nb) (t:=t1) (o:=o1) hP hO h1 g1;unfold q07
 cases hx:q2C ws nb P O t1 o1 with
 | bad e z=>rw [hx] at h;exact h
 | ok r t2 o2=>
  rw [hx] at h;show PL ws.length nb t1 ((if r.2=true then _ else _:PM _) t2 o2);by_cases hr:r.2=true
  · rw [if_pos hr];exact PL.go (h.1 hr) h.2.2
  · rw [if_neg hr];exact PL.no h.2.1 h.2.2
theorem v_operand (G:GA ws nb) (hP:VP ws nb (m+1) P) (hO:∀ l,1≤l→VP ws nb (m+1) (O l)) {l:Nat} (hl:1≤l):VP ws nb m (q1I ws nb P O l):=fun t o hm ht=>
 PV.then_ (v_unary G hP hO t o hm ht) fun A t1 o1 h1 g1=>(v_behind G (m:=m) hO hl A t1 o1 (by omega) g1).low h1
theorem v_po (G:GA ws nb):∀ (k:Nat),VP ws nb (ws.length+1-k) (poP ws nb k).1∧∀ l,1≤l→VP ws nb (ws.length+1-k) ((poP ws nb k).2 l)
 | 0=>⟨fun t o h1 h2=>by omega,fun l _ t o h1 h2=>by omega⟩
 | k+1=>by
  obtain ⟨h1,h2⟩:=v_po G k;by_cases hk:k≤ws.length
  · have e:ws.length+1-(k+1)+1=ws.length+1-k:=by omega
    exact ⟨v_pipe G (e▸h1) (e▸h2),fun l hl=>v_operand G (e▸h1) (e▸h2) hl⟩
  · have h3:VP ws nb (0+1) (poP ws nb k).1:=fun t o h3 h4=>h1 t o (by omega) h4;have h4:∀ l,1≤l→VP ws nb (0+1) ((poP ws nb k).2 l):=fun l hl t o h3 h4=>h2 l hl t o (by omega) h4;rw [show ws.length+1-(k+1)=0 by omega];exact ⟨v_pipe G h3 h4,fun l hl=>v_operand G h3 h4 hl⟩
theorem v_whole (G:GA ws nb):PV ws.length nb 0 (q2f ws nb):=by
 unfold q2f;have h:=(v_po G (ws:=ws) (nb:=nb) (ws.length+1)).1 0 0 (by omega) (Nat.zero_le _);exact PV.then_ h fun A t o _ h2=>PV.ite (fun _=>PV.ft G) fun _=>PV.ok_ (Nat.zero_le _) h2
theorem whole_nz (G:GA ws nb) {e q:Nat} (h:q2f ws nb= .bad e q):e≠0∧q≤nb:=by
 have:=v_whole G (ws:=ws) (nb:=nb);rw [h] at this;exact this
end
end Go.Proofs.YtbpopnafcpfifaaGreatDoor
