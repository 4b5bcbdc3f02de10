import Derived.Test.YtbpopnafcpfifaaGreatDoorU25
import Derived.Test.YtbpopnafcpfifaaGreatDoorU26
set_option linter.unusedVariables false
set_option linter.unusedSimpArgs false
namespace Go.Proofs.YtbpopnafcpfifaaGreatDoor
open Go.RowKit Go.Shelf
noncomputable def sq {α:Type} (x y: α):Bool:= @decide (x=y) (Classical.propDecidable _)
theorem q2q {α:Type} {x y: α}:sq x y=true↔x=y:=by unfold sq;exact @decide_eq_true_iff (x=y) (Classical.propDecidable _)
theorem q2l {α:Type} {x y: α} (h:¬ x=y):sq x y=false:=by
 cases hb:sq x y with
 | false=>rfl
 | true=>exact absurd (q2q.1 hb) h
mutual
def noA:NT→NT
 | .mk op _ tx v ns ks=> .mk op 0 tx v ns (noAs ks)
def noAs:List NT→List NT
 | []=>[]
 | k::ks=>noA k::noAs ks
end
theorem noAs_len:∀ ks:List NT,(noAs ks).length=ks.length
 | []=>rfl
 | k::ks=>by rw [noAs,List.length_cons,List.length_cons,noAs_len ks]
theorem noAs_len_eq {xs ys:List NT} (h:noAs xs=noAs ys):xs.length=ys.length:=by
 have:=congrArg List.length h;rwa [noAs_len,noAs_len] at this
theorem noA_eq {A B:NT}:noA A=noA B↔A.op=B.op∧A.text=B.text∧A.value=B.value∧A.names=B.names∧noAs A.kids=noAs B.kids:=by
 obtain ⟨a,b,c,d,e,f⟩:=A;obtain ⟨a',b',c',d',e',f'⟩:=B;rw [noA,noA];simp only [NT.mk.injEq,NT.op,NT.text,NT.value,NT.names,NT.kids,true_and]
end Go.Proofs.YtbpopnafcpfifaaGreatDoor
namespace Go.Proofs.YtbpopnafcpfifaaGreatDoor
structure SE (ws ws':List Tok) (nb nb' a:Nat) (BD:Nat→Prop) (mv:Nat→Nat):Prop where
 tok:∀ t,t<ws.length→(hrP ws' (t+a)).kind=(hrP ws t).kind∧(hrP ws' (t+a)).text=(hrP ws t).text∧(hrP ws' (t+a)).at_=mv (hrP ws t).at_
 fin:(0<a∧(∀ e,¬ BD e)∧(hrP ws' (ws.length+a)).kind=10∧(hrP ws' (ws.length+a)).text=[41])∨(a=0∧ws'.length=ws.length∧nb'=mv nb)
 len:ws.length≤ws'.length
 bd0:¬ BD 0
section
variable {ws ws':List Tok} {nb nb' a:Nat} {BD:Nat→Prop} {mv:Nat→Nat}
def SV (ws:List Tok) (a:Nat) (BD:Nat→Prop) (mv:Nat→Nat) {α β:Type} (R: α→ β→Prop) (u:Nat) (r:Pr α) (r':Pr β):Prop:=match r with
 | .ok p t o=>(0<a∧∃ z,r'= .bad 172 z)∨(t≤ws.length∧o=u∧∃ q,r'= .ok q (t+a) (o+a)∧R p q)
 | .bad e z=>BD e→r'= .bad e (mv z)
variable {α β γ δ:Type} {R: α→ β→Prop} {S: γ→ δ→Prop}
theorem SV.then_ (E:SE ws ws' nb nb' a BD mv) {x:PM α} {y:PM β} {f: α→PM γ} {g: β→PM δ} {t o t2 o2 u v:Nat} (h:SV ws a BD mv R u (x t o) (y t2 o2)) (hf:∀ p q t',R p q→t'≤ws.length→SV ws a BD mv S v (f p t' u) (g q (t'+a) (u+a))):SV ws a BD mv S v (q07 x f t o) (q07 y g t2 o2):=by
 unfold q07
 cases hx:x t o with
 | ok p t' o'=>
  rw [hx] at h;rcases h with ⟨h1,z,h2⟩|⟨h1,rfl,q,h2,h3⟩
  · rw [h2];show SV ws a BD mv S v (f p t' o') (.bad 172 z);unfold SV
    cases f p t' o' with
    | ok p2 t2 o2=>exact .inl ⟨h1,z,rfl⟩
    | bad e z2=>
     intro hb;rcases E.fin with ⟨_,h5,_⟩|⟨h5,_⟩
     · exact absurd hb (h5 e)
     · omega
  · rw [h2];exact hf p q t' h3 h1
 | bad e z=>
  rw [hx] at h;intro hb;rw [h hb];rfl
theorem SV.ok_ {p: α} {q: β} {t o:Nat} (h:R p q) (ht:t≤ws.length):SV ws a BD mv R o (.ok p t o) (.ok q (t+a) (o+a)):= .inr ⟨ht,rfl,q,rfl,h⟩
theorem SV.mono {R': α→ β→Prop} {u:Nat} {r:Pr α} {r':Pr β} (h:SV ws a BD mv R u r r') (hR:∀ p q,R p q→R' p q):SV ws a BD mv R' u r r':=by
 cases r with
 | ok p t o=>
  rcases h with h|⟨h1,h2,q,h3,h4⟩
  · exact .inl h
  · exact .inr ⟨h1,h2,q,h3,hR _ _ h4⟩
 | bad e z=>exact h
def SuR {α β γ δ:Type} (R: α→ β→Prop) (S: γ→ δ→Prop): α ⊕ γ→ β ⊕ δ→Prop
 | .inl p,.inl q=>R p q
 | .inr p,.inr q=>S p q
 | _,_=>False
theorem SV.loop (E:SE ws ws' nb nb' a BD mv) {body: α→PM (α ⊕ γ)} {body': β→PM (β ⊕ δ)} {o:Nat} (hb:∀ p q t,R p q→t≤ws.length→SV ws a BD mv (SuR R S) o (body p t o) (body' q (t+a) (o+a))):∀ (f f':Nat),f≤f'→∀ p q t,R p q→t≤ws.length→SV ws a BD mv S o (lpP body f p t o) (lpP body' f' q (t+a) (o+a))
 | 0,f',_,p,q,t,_,_=>fun h=>absurd h E.bd0
 | f+1,0,hf,p,q,t,_,_=>by omega
 | f+1,f'+1,hf,p,q,t,hR,ht=>by
  rw [lpP,lpP];refine SV.then_ E (hb p q t hR ht) fun r r' t' hr ht'=> ?_
  match r,r',hr with
  | .inl p',.inl q',h=>exact SV.loop E hb f f' (by omega) p' q' t' h ht'
  | .inr p',.inr q',h=>exact SV.ok_ h ht'
def TkR (x y:Tok):Prop:=y.kind=x.kind∧y.text=x.text
theorem SE.at_ (E:SE ws ws' nb nb' a BD mv) {t:Nat} (h:t<ws.length):TkR (hrP ws t) (hrP ws' (t+a)):=⟨(E.tok t h).1,(E.tok t h).2.1⟩
theorem hr_end {ws:List Tok} {t:Nat} (h:ws.length≤t):hrP ws t=⟨0,0,0,[],0⟩:=by
 unfold hrP;rw [List.getD,List.getElem?_eq_none h];rfl
theorem sy_end {ws:List Tok} {t:Nat} {s:List UInt8} (h:ws.length≤t):syP ws t s=false:=by
 cases hc:syP ws t s with
 | false=>rfl
 | true=>have:=q0v hc;omega
theorem SE.sy (E:SE ws ws' nb nb' a BD mv) {t:Nat} (ht:t≤ws.length) {s:List UInt8} (hs:s≠[41]):syP ws' (t+a) s=syP ws t s:=by
 by_cases h:t<ws.length
 · unfold syP;rw [(E.at_ h).1,(E.at_ h).2]
 · rw [sy_end (ws:=ws) (by omega)];rcases E.fin with ⟨_,_,h1,h2⟩|⟨h1,h2,_⟩
   · unfold syP;rw [show t=ws.length by omega,h2,Bool.and_eq_false_iff];refine .inr ?_
     cases hb:([41]==s:Bool) with
     | false=>rfl
     | true=>exact absurd (eq_of_beq hb).symm hs
   · exact sy_end (by omega)
theorem SE.is_ (E:SE ws ws' nb nb' a BD mv) {t:Nat} (ht:t≤ws.length) {k:Nat} (hk:k≠0) (hk2:k≠10):isP ws' k (t+a)=isP ws k t:=by
 unfold isP;by_cases h:t<ws.length
 · rw [(E.at_ h).1]
 · have e:(hrP ws t).kind=0:=by rw [hr_end (by omega)]
   rw [e];rcases E.fin with ⟨_,_,h1,h2⟩|⟨h1,h2,_⟩
   · rw [show t=ws.length by omega,h1];rw [show ((10:Nat)==k)=false by rw [beq_eq_false_iff_ne];omega,show ((0:Nat)==k)=false by rw [beq_eq_false_iff_ne];omega]
   · rw [show (hrP ws' (t+a)).kind=0 by rw [hr_end (by omega)]]
theorem SV.ft (E:SE ws ws' nb nb' a BD mv) {R: α→ β→Prop} {t o u o2:Nat} (ht:t≤ws.length):SV ws a BD mv R u (pFt ws nb t o) (pFt ws' nb' (t+a) o2):=by
 show BD _→_;intro hb;rcases E.fin with ⟨_,h1,_⟩|⟨h1,h2,h3⟩
 · exact absurd hb (h1 _)
 · subst h1;show Pr.bad _ _=Pr.bad _ _;unfold ftE ftQ;rw [h2,Nat.add_zero];by_cases h:t=ws.length
   · rw [if_pos h,if_pos h,if_pos h,h3]
   · rw [if_neg h,if_neg h,if_neg h];have:=(E.tok t (by omega)).2.2;rw [Nat.add_zero] at this;rw [this]
theorem SV.take (E:SE ws ws' nb nb' a BD mv) {t o:Nat} (ht:t<ws.length):SV ws a BD mv TkR o (q0E ws t o) (q0E ws' (t+a) (o+a)):=by
 refine .inr ⟨by omega,rfl,_,?_,E.at_ ht⟩;show Pr.ok _ _ _=_;rw [show t+a+1=t+1+a by omega]
theorem SV.must (E:SE ws ws' nb nb' a BD mv) {t o:Nat} (s:List UInt8) (ht:t≤ws.length):SV ws a BD mv TkR o (q19 ws nb s t o) (q19 ws' nb' s (t+a) (o+a)):=by
 unfold q19;by_cases h:syP ws t s=true
 · have hl:=q0v h
   have h':syP ws' (t+a) s=true:=by
    unfold syP at h ⊢;rwa [(E.at_ hl).1,(E.at_ hl).2]
   rw [if_pos h,if_pos h'];exact SV.take E hl
 · rw [if_neg h];by_cases h':syP ws' (t+a) s=true
   · intro hb;exfalso;by_cases hl:t<ws.length
     · unfold syP at h h';rw [(E.at_ hl).1,(E.at_ hl).2] at h';exact h h'
     · rcases E.fin with ⟨_,h1,_⟩|⟨h1,h2,_⟩
       · exact h1 _ hb
       · rw [sy_end (by omega)] at h'
         cases h'
   · rw [if_neg h'];exact SV.ft E ht
theorem SV.be (E:SE ws ws' nb nb' a BD mv) {t o:Nat} (k:Nat) (hk:k≠0) (hk2:k≠10) (ht:t≤ws.length):SV ws a BD mv TkR o (pBe ws nb k t o) (pBe ws' nb' k (t+a) (o+a)):=by
 unfold pBe;rw [E.is_ ht hk hk2];by_cases h:isP ws k t=true
 · rw [if_pos h,if_pos h];exact SV.take E (q1M hk h)
 · rw [if_neg h,if_neg h];exact SV.ft E ht
theorem SV.open_ (E:SE ws ws' nb nb' a BD mv) (ha:a≤1) {t o:Nat} (ht:t<ws.length):SV ws a BD mv TkR (o+1) (q24 ws t o) (q24 ws' (t+a) (o+a)):=by
 unfold q24;by_cases h:o=64
 · rw [if_pos h];intro hb;rcases E.fin with ⟨_,h1,_⟩|⟨h1,h2,_⟩
   · exact absurd hb (h1 _)
   · rw [if_pos (by omega),(E.tok t ht).2.2]
 · rw [if_neg h];by_cases h':o+a=64
   · rw [if_pos h'];exact .inl ⟨by omega,_,rfl⟩
   · rw [if_neg h'];refine .inr ⟨by omega,rfl,_,?_,E.at_ ht⟩;rw [show t+a+1=t+1+a by omega,show o+a+1=o+1+a by omega]
theorem SV.enter (E:SE ws ws' nb nb' a BD mv) (ha:a≤1) {t o:Nat} (s:List UInt8) (hs:s≠[41]) (ht:t≤ws.length):SV ws a BD mv TkR (o+1) (q13 ws nb s t o) (q13 ws' nb' s (t+a) (o+a)):=by
 unfold q13;rw [E.sy ht hs];by_cases h:syP ws t s=true
 · rw [if_pos h,if_pos h];exact SV.open_ E ha (q0v h)
 · rw [if_neg h,if_neg h];exact SV.ft E ht
theorem SV.leave (E:SE ws ws' nb nb' a BD mv) {t o:Nat} (s:List UInt8) (ht:t≤ws.length):SV ws a BD mv (fun _ _=>True) o (q0F ws nb s t (o+1)) (q0F ws' nb' s (t+a) (o+1+a)):=by
 unfold q0F;refine SV.then_ E (SV.must E s ht) fun p q t' _ ht'=> ?_;refine .inr ⟨ht',rfl,(),?_,trivial⟩;show Pr.ok _ _ _=_;rw [show o+1+a-1=o+a by omega,show o+1-1=o by omega]
end
section
variable {ws ws':List Tok} {nb nb' a:Nat} {BD:Nat→Prop} {mv:Nat→Nat} {α β:Type} {R: α→ β→Prop}
theorem SV.ite {c c':Prop} [Decidable c] [Decidable c'] {u:Nat} {A B:Pr α} {A' B':Pr β} (hc:c'↔c) (h1:c→SV ws a BD mv R u A A') (h2:¬ c→SV ws a BD mv R u B B'):SV ws a BD mv R u (if c then A else B) (if c' then A' else B'):=by
 by_cases h:c
 · rw [if_pos h,if_pos (hc.2 h)];exact h1 h
 · rw [if_neg h,if_neg (fun e=>h (hc.1 e))];exact h2 h
end
def NR (A B:NT):Prop:=noA A=noA B
def NRs (ks ls:List NT):Prop:=noAs ks=noAs ls
theorem q1Y:∀ ks:List NT,noAs ks=ks.map noA
 | []=>rfl
 | k::ks=>by rw [noAs,q1Y ks];rfl
theorem NRs.nil:NRs [] []:=rfl
theorem NRs.one {A B:NT} (h:NR A B):NRs [A] [B]:=by unfold NRs;rw [q1Y,q1Y];show [noA A]=[noA B];rw [show noA A=noA B from h]
theorem NRs.app {ks ls ms ns:List NT} (h:NRs ks ls) (h2:NRs ms ns):NRs (ks++ms) (ls++ns):=by
 unfold NRs at *;rw [q1Y,q1Y] at h h2;rw [q1Y,q1Y,List.map_append,List.map_append,h,h2]
theorem NRs.two {A B A' B':NT} (h:NR A B) (h2:NR A' B'):NRs [A,A'] [B,B']:=NRs.app (NRs.one h) (NRs.one h2)
theorem NR.mk {op at_ at2:Int} {tx:ByteArray} {v:VT} {ns:List ByteArray} {ks ls:List NT} (h:NRs ks ls):NR (.mk op at_ tx v ns ks) (.mk op at2 tx v ns ls):=by
 unfold NR;rw [noA,noA,show noAs ks=noAs ls from h]
theorem NR.nd {op:Int} {p q:Nat} {ks ls:List NT} (h:NRs ks ls):NR (ndP op p ks) (ndP op q ls):=NR.mk h
theorem NR.tx {op:Int} {p q:Nat} {tx:List UInt8} {ks ls:List NT} (h:NRs ks ls):NR (txP op p tx ks) (txP op q tx ls):=NR.mk h
theorem NR.cn {p q:Nat} {v:VT}:NR (cnP p v) (cnP q v):=NR.mk NRs.nil
theorem NR.said {x y:Tok} (h:TkR x y):NR (q0m x) (q0m y):=by unfold q0m;rw [h.2];exact NR.cn
theorem NR.var {x y:Tok} (h:TkR x y):NR (varP x) (varP y):=by unfold varP;rw [h.2];exact NR.tx NRs.nil
theorem NR.self {p q:Nat}:NR (q22 p) (q22 q):=NR.nd NRs.nil
theorem NR.idx {p q:Nat} {A B C D:NT} (h:NR A B) (h2:NR C D):NR (idxP p A C) (idxP q B D):=NR.nd (NRs.two h h2)
theorem NR.fld {x y:Tok} (h:TkR x y):NR (fldP x) (fldP y):=NR.idx NR.self (NR.said h)
end Go.Proofs.YtbpopnafcpfifaaGreatDoor
namespace Go.Proofs.YtbpopnafcpfifaaGreatDoor
open Go.RowKit Go.Shelf
attribute [local go_sem] Oper.semAt_some
structure ND where
 op:Int
 at_:Int
 vk:Int
 tx:ByteArray
 nu:ByteArray
 vt:ByteArray
 io:Option Addr
 yo:Option Addr
 no:Option Addr
 ko:Option Addr
 iN:Nat
 ic:Nat
 yN:Nat
 yc:Nat
 nN:Nat
 nc:Nat
 kN:Nat
 kc:Nat
def ND.v (d:ND):Value:= .agg #[.int .i64 d.op,.int .i64 d.at_,.string d.tx,.int .i64 d.vk,.string d.nu,.string d.vt,.slice d.io d.iN d.ic,.slice d.yo d.yN d.yc,.slice d.no d.nN d.nc,.slice d.ko d.kN d.kc]
structure St (w:World) (B:Nat) (so:Option Addr) (sc:Nat) (ws:List Tok) (nb t o:Nat) (W:World):Prop where
 bt:Bt B w W
 pat:PAt W B so sc ws nb t o
 lt:w.heap.size<W.heap.size
 res:W.heap[w.heap.size]? =some (.cells #[.int .i64 0,.int .i64 0,.string ⟨#[]⟩,.int .i64 0,.string ⟨#[]⟩,.string ⟨#[]⟩,.slice none 0 0,.slice none 0 0,.slice none 0 0,.slice none 0 0] 28 (0,0))
theorem St.new {w:World} {B:Nat} {so:Option Addr} {sc:Nat} {ws:List Tok} {nb t o:Nat} (h:PAt w B so sc ws nb t o):St w B so sc ws nb t o (w.alloc (.cells #[.int .i64 0,.int .i64 0,.string ⟨#[]⟩,.int .i64 0,.string ⟨#[]⟩,.string ⟨#[]⟩,.slice none 0 0,.slice none 0 0,.slice none 0 0,.slice none 0 0] 28)):=⟨(Bt.refl B w).alloc _,h.alloc _,by simp,heap_alloc_new w _⟩
theorem St.keep {w W W':World} {B:Nat} {so:Option Addr} {sc:Nat} {ws:List Tok} {nb t o:Nat} (h:St w B so sc ws nb t o W) (hb:Below W.heap.size W W'):St w B so sc ws nb t o W':=⟨h.bt.trans (Bt.of hb),h.pat.keep hb,Nat.lt_of_lt_of_le h.lt hb.size,(hb.block _ h.lt).trans h.res⟩
theorem St.step {w W W':World} {B:Nat} {so:Option Addr} {sc:Nat} {ws:List Tok} {nb t o:Nat} {t' o':Nat} (h:St w B so sc ws nb t o W) (hB:B<w.heap.size) (hb:Bt B W W') (hp:PAt W' B so sc ws nb t' o'):St w B so sc ws nb t' o' W':=⟨h.bt.trans hb,hp,Nat.lt_of_lt_of_le h.lt hb.size,(hb.block _ h.lt (by omega)).trans h.res⟩
theorem St.alloc {w W:World} {B:Nat} {so:Option Addr} {sc:Nat} {ws:List Tok} {nb t o:Nat} (h:St w B so sc ws nb t o W) (x:Obj):St w B so sc ws nb t o (W.alloc x):=h.keep ((Below.refl _ _).alloc (Nat.le_refl _) x)
theorem St.drew {w W:World} {B:Nat} {so:Option Addr} {sc:Nat} {ws:List Tok} {nb t o:Nat} (h:St w B so sc ws nb t o W):St w B so sc ws nb t o W.drew:=h.keep (Below.refl _ _).drew
theorem St.put {w W W':World} {B:Nat} {so:Option Addr} {sc:Nat} {ws:List Tok} {nb t o:Nat} {t0 o0:Nat} {x:Obj} (h:St w B so sc ws nb t o W) (h0:PAt w B so sc ws nb t0 o0) (hp:Put w.heap.size x W W'):Bt B w W'∧PAt W' B so sc ws nb t o:=by
 have hB:=h0.lt;have hb:Bt B w W':=hp.bt h.bt (Nat.le_refl _);exact ⟨hb,h0.stepT t o hb h.pat.le h.pat.open_ ((hp.rest B (by omega)).trans h.pat.box)⟩
end Go.Proofs.YtbpopnafcpfifaaGreatDoor
namespace Go.Proofs.YtbpopnafcpfifaaGreatDoor
def PV (n b:Nat) {α:Type} (r:Pr α):Prop:=match r with
 | .ok _ t _=>b≤t∧t≤n
 | .bad e _=>e≠0
def PL (n b:Nat) {α β:Type} (r:Pr (α ⊕ β)):Prop:=match r with
 | .ok (.inl _) t _=>b<t∧t≤n
 | .ok (.inr _) t _=>b≤t∧t≤n
 | .bad e _=>e≠0
section
variable {n b b1 m:Nat} {α β:Type}
theorem PV.then_ {x:PM α} {f: α→PM β} {t o:Nat} (h:PV n b1 (x t o)) (hf:∀ p t' o',b1≤t'→t'≤n→PV n b (f p t' o')):PV n b (q07 x f t o):=by
 unfold q07
 cases hx:x t o with
 | ok p t' o'=>rw [hx] at h;exact hf p t' o' h.1 h.2
 | bad e z=>rw [hx] at h;exact h
theorem PL.then_ {γ:Type} {x:PM γ} {f: γ→PM (α ⊕ β)} {t o:Nat} (h:PV n b1 (x t o)) (hf:∀ p t' o',b1≤t'→t'≤n→PL n b (f p t' o')):PL n b (q07 x f t o):=by
 unfold q07
 cases hx:x t o with
 | ok p t' o'=>rw [hx] at h;exact hf p t' o' h.1 h.2
 | bad e z=>rw [hx] at h;exact h
theorem PV.ok_ {a: α} {t o:Nat} (h1:b≤t) (h2:t≤n):PV n b (.ok a t o):=⟨h1,h2⟩
theorem PL.go {a: α} {t o:Nat} (h1:b<t) (h2:t≤n):PL n b (.ok (.inl a: α ⊕ β) t o):=⟨h1,h2⟩
theorem PL.no {a: β} {t o:Nat} (h1:b≤t) (h2:t≤n):PL n b (.ok (.inr a: α ⊕ β) t o):=⟨h1,h2⟩
theorem PV.ite {c:Prop} [Decidable c] {A B:Pr α} (h1:c→PV n b A) (h2:¬ c→PV n b B):PV n b (if c then A else B):=by
 by_cases h:c
 · rw [if_pos h];exact h1 h
 · rw [if_neg h];exact h2 h
theorem PL.ite {c:Prop} [Decidable c] {A B:Pr (α ⊕ β)} (h1:c→PL n b A) (h2:¬ c→PL n b B):PL n b (if c then A else B):=by
 by_cases h:c
 · rw [if_pos h];exact h1 h
 · rw [if_neg h];exact h2 h
theorem PV.loop {body: α→PM (α ⊕ β)} (hb:∀ p t o,m≤t→t≤n→PL n t (body p t o)):∀ (f:Nat) (p: α) (t o:Nat),m≤t→t≤n→n<t+f→PV n t (lpP body f p t o)
 | 0,p,t,o,_,_,h=>by omega
 | f+1,p,t,o,h1,h2,h3=>by
  rw [lpP];have h:=hb p t o h1 h2;unfold q07
  cases hx:body p t o with
  | bad e z=>rw [hx] at h;exact h
  | ok r t' o'=>
   rw [hx] at h
   cases r with
   | inl a=>
    have h4:t<t'∧t'≤n:=h;have:=PV.loop hb f a t' o' (by omega) h4.2 (by omega);show PV n t (lpP body f a t' o')
    cases hy:lpP body f a t' o' with
    | ok p2 t2 o2=>rw [hy] at this;exact ⟨by have:=this.1;omega,this.2⟩
    | bad e z=>rw [hy] at this;exact this
   | inr a=>exact h
theorem PV.low {b':Nat} {r:Pr α} (h:PV n b r) (hb:b'≤b):PV n b' r:=by
 cases r with
 | ok p t o=>exact ⟨by have:=h.1;omega,h.2⟩
 | bad e z=>exact h
end
section
variable {ws:List Tok} {nb m b:Nat} {P:PM NT} {O:Nat→PM NT} {α:Type}
theorem PV.ft {t o:Nat}:PV ws.length b (pFt (α:= α) ws nb t o):=by
 show ftE ws t≠0;unfold ftE
 split <;> decide
theorem PV.take {t o:Nat} (h:t<ws.length):PV ws.length (t+1) (q0E ws t o):=⟨Nat.le_refl _,h⟩
theorem PV.must {t o:Nat} (s:List UInt8):PV ws.length (t+1) (q19 ws nb s t o):=PV.ite (fun h=>PV.take (q0v h)) fun _=>PV.ft
theorem PV.be {t o:Nat} (k:Nat) (hk:k≠0):PV ws.length (t+1) (pBe ws nb k t o):=PV.ite (fun h=>PV.take (q1M hk h)) fun _=>PV.ft
theorem PV.open_ {t o:Nat} (h:t<ws.length):PV ws.length (t+1) (q24 ws t o):=PV.ite (fun _=>(by decide:(172:Nat)≠0)) fun _=>⟨Nat.le_refl _,h⟩
theorem PV.enter {t o:Nat} (s:List UInt8):PV ws.length (t+1) (q13 ws nb s t o):=PV.ite (fun h=>PV.open_ (q0v h)) fun _=>PV.ft
theorem PV.leave {t o:Nat} (s:List UInt8):PV ws.length (t+1) (q0F ws nb s t o):=PV.then_ (PV.must s) fun _ t1 _ h1 g1=>⟨h1,g1⟩
def VP (ws:List Tok) (m:Nat) (x:PM α):Prop:=∀ t o,m≤t→t≤ws.length→PV ws.length t (x t o)
theorem v_group (hP:VP ws (m+1) P):VP ws m (q1O ws nb P):=fun t o hm ht=>
 PV.then_ (PV.enter [40]) fun _ t1 _ h1 g1=>PV.then_ (hP t1 _ (by omega) g1) fun _ t2 _ h2 g2=>PV.then_ (PV.leave [41]) fun _ t3 _ h3 g3=>PV.ok_ (by omega) g3
theorem v_list (hP:VP ws (m+1) P):VP ws m (listP ws nb P):=fun t o hm ht=>
 PV.then_ (PV.enter [91]) fun x t1 o1 h1 g1=>PV.then_ (b1:=t1) (PV.ite (fun _=>PV.ok_ (Nat.le_refl _) g1) fun _=>PV.then_ (hP t1 _ (by omega) g1) fun _ t2 _ h2 g2=>PV.ok_ h2 g2) fun _ t2 _ h2 g2=>PV.then_ (PV.leave [93]) fun _ t3 _ h3 g3=>PV.ok_ (by omega) g3
theorem v_text (hP:VP ws (m+1) P):VP ws m (q1K ws nb P):=fun t o hm ht=>by
 unfold q1K;refine PV.ite (fun hc=>PV.then_ (PV.take (q1M (by decide) hc)) fun x t1 _ h1 g1=>PV.ok_ (by omega) g1) fun _=> ?_;refine PV.ite (fun hc=> ?_) fun _=>PV.ft;refine PV.then_ (PV.open_ (q1M (by decide) hc)) fun x0 t1 o1 h1 g1=> ?_;refine PV.then_ (b1:=t1) (PV.loop (m:=m+1) (fun p t2 o2 h2 g2=> ?_) _ _ t1 o1 (by omega) g1 (by omega)) fun ks t2 o2 h2 g2=>PV.then_ (PV.be 9 (by decide)) fun x t3 o3 h3 g3=>PV.ok_ (by omega) g3;exact PL.then_ (hP t2 o2 h2 g2) fun A t3 o3 h3 g3=>PL.ite (fun hc=>PL.go (by omega) (q1M (by decide) hc)) fun _=>PL.no h3 g3
theorem v_pipes (hP:VP ws (m+1) P) (ks:List NT) (least most:Nat):VP ws m (q1C ws nb P ks least most):=fun t o hm ht=>by
 unfold q1C;refine PV.then_ (PV.enter [40]) fun x t1 o1 h1 g1=>PV.then_ (hP t1 o1 (by omega) g1) fun A t2 o2 h2 g2=> ?_;refine PV.then_ (b1:=t2) (PV.loop (m:=m+1) (fun p t3 o3 h3 g3=> ?_) _ _ t2 o2 (by omega) g2 (by omega)) fun ks t3 o3 h3 g3=>PV.then_ (PV.leave [41]) fun _ t4 _ h4 g4=>PV.ok_ (by omega) g4;refine PL.ite (fun _=> ?_) fun _=>PL.no (Nat.le_refl _) g3;refine PL.ite (fun _=>PL.no (Nat.le_refl _) g3) fun _=> ?_;exact PL.then_ (PV.must [59]) fun _ t4 o4 h4 g4=>PL.then_ (hP t4 o4 (by omega) g4) fun C t5 o5 h5 g5=>PL.go (by omega) g5
theorem v_branch (hP:VP ws (m+1) P) (p:Nat):VP ws (m+1) (q1y ws nb P p):=fun t o hm ht=>
 PV.then_ (hP t o hm ht) fun _ t1 o1 h1 g1=>PV.then_ (PV.must _) fun _ t2 o2 h2 g2=>PV.then_ (hP t2 o2 (by omega) g2) fun _ t3 o3 h3 g3=>PV.ok_ (by omega) g3
theorem v_choice (hP:VP ws (m+1) P):VP ws m (q1d ws nb P):=fun t o hm ht=>by
 unfold q1d;refine PV.then_ (PV.enter _) fun x t1 o1 h1 g1=>PV.then_ (v_branch hP _ t1 o1 (by omega) g1) fun A t2 o2 h2 g2=> ?_;refine PV.then_ (b1:=t2) (PV.loop (m:=m+1) (fun p t3 o3 h3 g3=> ?_) _ _ t2 o2 (by omega) g2 (by omega)) fun bs t3 o3 h3 g3=> ?_
 · exact PL.ite (fun hc=>PL.then_ (PV.take (q0v hc)) fun _ t4 o4 h4 g4=>PL.then_ (v_branch hP _ t4 o4 (by omega) g4) fun C t5 o5 h5 g5=>PL.go (by omega) g5) fun _=>PL.no (Nat.le_refl _) g3
 · exact PV.then_ (b1:=t3) (PV.ite (fun hc=>PV.then_ (PV.take (q0v hc)) fun _ t4 o4 h4 g4=>(hP t4 o4 (by omega) g4).low (by omega)) fun _=>PV.ok_ (Nat.le_refl _) g3) fun A t4 o4 h4 g4=>PV.then_ (PV.leave _) fun _ t5 _ h5 g5=>PV.ok_ (by omega) g5
theorem v_entry (hP:VP ws (m+1) P) (hO:∀ l,1≤l→VP ws (m+1) (O l)) (ks:List NT):VP ws m (q1a ws nb P O ks):=fun t o hm ht=>by
 unfold q1a;refine PV.ite (fun hc=> ?_) fun hc=> ?_
 · have hl:t<ws.length:=by
    rcases Nat.lt_or_ge t ws.length with h|h
    · exact h
    · rw [hr_end h] at hc;exact absurd hc (by decide)
   exact PV.ite (fun _=>PV.then_ (PV.must [58]) fun _ t2 o2 h2 g2=>PV.then_ (hO 3 (by decide) t2 o2 (by omega) g2) fun A t3 o3 h3 g3=>PV.ok_ (by omega) g3) fun _=>PV.ok_ (by omega) hl
 · refine PV.then_ (b1:=t) ?_ fun A t1 o1 h1 g1=>PV.then_ (PV.must [58]) fun _ t2 o2 h2 g2=>PV.then_ (hO 3 (by decide) t2 o2 (by omega) g2) fun C t3 o3 h3 g3=>PV.ok_ (by omega) g3
   split
   · exact v_text hP t o hm ht
   · exact v_group hP t o hm ht
theorem v_record (hP:VP ws (m+1) P) (hO:∀ l,1≤l→VP ws (m+1) (O l)):VP ws m (q1e ws nb P O):=fun t o hm ht=>by
 unfold q1e;refine PV.then_ (PV.enter [123]) fun x t1 o1 h1 g1=> ?_;refine PV.then_ (b1:=t1) (PV.ite (fun _=>PV.ok_ (Nat.le_refl _) g1) fun _=> ?_) fun ks t2 o2 h2 g2=>PV.then_ (PV.leave [125]) fun _ t3 _ h3 g3=>PV.ok_ (by omega) g3;refine PV.then_ (v_entry hP hO [] t1 o1 (by omega) g1) fun ks t2 o2 h2 g2=>PV.low (b:=t2) ?_ h2;refine PV.loop (m:=m) (fun p t3 o3 h3 g3=> ?_) _ _ t2 o2 (by omega) g2 (by omega);exact PL.ite (fun hc=>PL.then_ (PV.take (q0v hc)) fun _ t4 o4 h4 g4=>PL.then_ (v_entry hP hO p t4 o4 (by omega) g4) fun C t5 o5 h5 g5=>PL.go (by omega) g5) fun _=>PL.no (Nat.le_refl _) g3
theorem v_call (hP:VP ws (m+1) P) {t o:Nat} (hm:m≤t) (hl:t<ws.length):PV ws.length t (callP ws nb P t o):=by
 unfold callP;exact PV.then_ (PV.take hl) fun x t1 o1 h1 g1=>PV.ite (fun _=>PV.then_ (v_pipes hP _ 1 _ t1 o1 (by omega) g1) fun ks t2 o2 h2 g2=>PV.ok_ (by omega) g2) fun _=>PV.ok_ (by omega) g1
theorem v_term (hP:VP ws (m+1) P) (hO:∀ l,1≤l→VP ws (m+1) (O l)):VP ws m (q20 ws nb P O):=fun t o hm ht=>by
 rcases Nat.lt_or_ge t ws.length with hl|hl
 · unfold q20;dsimp only;refine PV.ite (fun _=> ?_) fun _=> ?_
   · refine PV.ite (fun _=>PV.then_ (PV.take hl) fun x t1 o1 h1 g1=>PV.ite (fun _=>PV.then_ (v_text hP t1 o1 (by omega) g1) fun A t2 o2 h2 g2=>PV.ok_ (by omega) g2) fun _=>PV.ok_ (by omega) g1) fun _=> ?_;refine PV.ite (fun _=>PV.ok_ (by omega) hl) fun _=> ?_;refine PV.ite (fun _=>v_group hP t o hm ht) fun _=> ?_;refine PV.ite (fun _=>v_list hP t o hm ht) fun _=> ?_;exact PV.ite (fun _=>v_record hP hO t o hm ht) fun _=>PV.ft
   refine PV.ite (fun _=> ?_) fun _=> ?_
   · refine PV.ite (fun _=>PV.ok_ (by omega) hl) fun _=> ?_;refine PV.ite (fun _=>PV.ok_ (by omega) hl) fun _=> ?_;refine PV.ite (fun _=>PV.ok_ (by omega) hl) fun _=> ?_;refine PV.ite (fun _=>v_choice hP t o hm ht) fun _=> ?_;exact PV.ite (fun _=>PV.then_ (PV.take hl) fun _ t1 o1 h1 g1=>PV.then_ (PV.be 3 (by decide)) fun x t2 o2 h2 g2=>PV.ok_ (by omega) g2) fun _=>PV.ft
   refine PV.ite (fun _=>PV.ok_ (by omega) hl) fun _=> ?_;refine PV.ite (fun _=>PV.ok_ (by omega) hl) fun _=> ?_;refine PV.ite (fun _=>v_text hP t o hm ht) fun _=> ?_;refine PV.ite (fun _=>PV.ok_ (by omega) hl) fun _=> ?_;exact PV.ite (fun _=>v_call hP hm hl) fun _=>PV.ft
 · have e:q20 ws nb P O t o=pFt ws nb t o:=by
    unfold q20;rw [hr_end hl];rfl
   rw [e];exact PV.ft
theorem v_bracket (hP:VP ws (m+1) P) (A:NT) {t o:Nat} (hm:m≤t) (ht:t≤ws.length):PV ws.length (t+1) (q15 ws nb P A t o):=by
 unfold q15;refine PV.then_ (PV.enter [91]) fun x t1 o1 h1 g1=> ?_;refine PV.ite (fun _=>PV.then_ (PV.leave [93]) fun _ t2 _ h2 g2=>PV.ok_ (by omega) g2) fun _=> ?_;refine PV.ite (fun hc=>PV.then_ (PV.take (q0v hc)) fun _ t2 o2 h2 g2=>PV.then_ (hP t2 o2 (by omega) g2) fun C t3 o3 h3 g3=>PV.then_ (PV.leave [93]) fun _ t4 _ h4 g4=>PV.ok_ (by omega) g4) fun _=> ?_;refine PV.then_ (hP t1 o1 (by omega) g1) fun C t2 o2 h2 g2=> ?_;refine PV.ite (fun _=>PV.then_ (PV.leave [93]) fun _ t3 _ h3 g3=>PV.ok_ (by omega) g3) fun _=> ?_;refine PV.then_ (PV.must [58]) fun _ t3 o3 h3 g3=> ?_;exact PV.ite (fun _=>PV.then_ (PV.leave [93]) fun _ t4 _ h4 g4=>PV.ok_ (by omega) g4) fun _=>PV.then_ (hP t3 o3 (by omega) g3) fun F t4 o4 h4 g4=>PV.then_ (PV.leave [93]) fun _ t5 _ h5 g5=>PV.ok_ (by omega) g5
theorem v_suffixed (hP:VP ws (m+1) P) (A:NT):VP ws m (q0s ws nb P A):=fun t o hm ht=>by
 unfold q0s;refine PV.loop (m:=m) (fun p t1 o1 h1 g1=> ?_) _ _ t o hm ht (by omega);refine PL.ite (fun hc=>PL.go (by omega) (q1M (by decide) hc)) fun _=> ?_;refine PL.ite (fun hc=>PL.then_ (PV.take (q0v hc)) fun _ t2 o2 h2 g2=>PL.then_ (v_text hP t2 o2 (by omega) g2) fun C t3 o3 h3 g3=>PL.go (by omega) g3) fun _=> ?_;refine PL.ite (fun hc=>PL.then_ (v_bracket hP p h1 g1) fun C t2 o2 h2 g2=>PL.go (by omega) g2) fun _=> ?_;exact PL.ite (fun hc=>PL.go (by omega) (q0v hc)) fun _=>PL.no (Nat.le_refl _) g1
theorem v_finished (hP:VP ws (m+1) P) (A:NT):VP ws m (q0i ws nb P A):=fun t o hm ht=>by
 unfold q0i
 split
 · exact PV.then_ (PV.must _) fun _ t1 o1 h1 g1=>PV.then_ (PV.be 3 (by decide)) fun x t2 o2 h2 g2=>PV.then_ (v_pipes hP _ 2 _ t2 o2 (by omega) g2) fun ks t3 o3 h3 g3=>PV.ok_ (by omega) g3
 · exact PV.ok_ (Nat.le_refl _) ht
theorem v_unwind (hP:VP ws (m+1) P):∀ (l:List NT) (A:NT) (t o:Nat),m≤t→t≤ws.length→PL ws.length t (q0D ws nb P l A t o)
 | [],A,t,o,hm,ht=>PL.no (Nat.le_refl _) ht
 | k::ks,A,t,o,hm,ht=>by
  rw [q0D];refine PL.ite (fun hc=>PL.go (by omega) (q0v hc.2.2)) fun _=> ?_;refine PL.then_ (v_finished hP _ t o hm ht) fun B t1 o1 h1 g1=>PL.then_ (v_suffixed hP B t1 o1 (by omega) g1) fun C t2 o2 h2 g2=> ?_;have:=v_unwind hP ks C t2 o2 (by omega) g2
  cases hy:q0D ws nb P ks C t2 o2 with
  | bad e z=>rw [hy] at this;exact this
  | ok r t3 o3=>
   rw [hy] at this
   cases r with
   | inl a=>exact ⟨by have:=this.1;omega,this.2⟩
   | inr a=>exact ⟨by have:=this.1;omega,this.2⟩
theorem PL.low {n b b':Nat} {α β:Type} {r:Pr (α ⊕ β)} (h:PL n b r) (hb:b'≤b):PL n b' r:=by
 cases r with
 | bad e z=>exact h
 | ok p t o=>
  cases p with
  | inl a=>exact ⟨by have:=h.1;omega,h.2⟩
  | inr a=>exact ⟨by have:=h.1;omega,h.2⟩
theorem await_ltE {t:Nat} {A:NT} (h:q0U ws t=some A):t<ws.length:=by
 rcases Nat.lt_or_ge t ws.length with hl|hl
 · exact hl
 · unfold q0U at h;dsimp only at h;rw [sy_end hl,sy_end hl,sy_end hl] at h
   cases h
theorem v_post (hP:VP ws (m+1) P) (hO:∀ l,1≤l→VP ws (m+1) (O l)):VP ws m (postP ws nb P O):=fun t o hm ht=>by
 unfold postP;refine PV.loop (m:=m) (fun p t1 o1 h1 g1=> ?_) _ _ t o hm ht (by omega);refine PL.then_ (b1:=t1) (PV.loop (m:=m) (fun q t2 o2 h2 g2=> ?_) _ _ t1 o1 h1 g1 (by omega)) fun bs t2 o2 h2 g2=>PL.then_ (v_term hP hO t2 o2 (by omega) g2) fun A t3 o3 h3 g3=>PL.then_ (v_suffixed hP A t3 o3 (by omega) g3) fun C t4 o4 h4 g4=>(v_unwind hP bs C t4 o4 (by omega) g4).low (by omega)
 cases hA:q0U ws t2 with
 | some A=>exact PL.go (by omega) (await_ltE hA)
 | none=>exact PL.no (Nat.le_refl _) g2
theorem v_unary (hP:VP ws (m+1) P) (hO:∀ l,1≤l→VP ws (m+1) (O l)):VP ws m (q1I ws nb P O):=fun t o hm ht=>by
 unfold q1I;refine PV.then_ (b1:=t) (PV.loop (m:=m) (fun q t2 o2 h2 g2=> ?_) _ _ t o hm ht (by omega)) fun bs t2 o2 h2 g2=>PV.then_ (v_post hP hO t2 o2 (by omega) g2) fun A t3 o3 h3 g3=>PV.ok_ (by omega) g3;exact PL.ite (fun hc=>PL.go (by omega) (q0v hc)) fun _=>PL.no (Nat.le_refl _) g2
theorem opz_ltE {t:Nat} (h:(opZ ws t).2.2.1≠0):t<ws.length:=by
 rcases Nat.lt_or_ge t ws.length with h1|h1
 · exact h1
 · have e:opZ ws t=([],0,0,0):=by
    unfold opZ;rw [hr_end h1];rfl
   rw [e] at h;exact absurd rfl h
theorem v_behind (hO:∀ l,1≤l→VP ws (m+1) (O l)) {least:Nat} (hl1:1≤least) (A:NT):VP ws m (q1f ws O least A):=fun t o hm ht=>by
 unfold q1f;refine PV.loop (m:=m) (fun p t1 o1 h1 g1=> ?_) _ _ t o hm ht (by omega);dsimp only;refine PL.ite (fun _=>PL.no (Nat.le_refl _) g1) fun hc=> ?_;have hl:=opz_ltE (ws:=ws) (t:=t1) (by omega);refine PL.then_ (hO _ (by omega) (t1+1) o1 (by omega) hl) fun C t2 o2 h2 g2=> ?_
 split
 · exact PL.go (by omega) g2
 · exact PL.go (by omega) g2
theorem v_param:VP ws m (q1l ws nb):=fun t o hm ht=>by
 unfold q1l;exact PV.ite (fun hc=>PV.ok_ (by omega) (q1M (by decide) hc)) fun _=>PV.then_ (PV.be 1 (by decide)) fun x t1 o1 h1 g1=>PV.ok_ (by omega) g1
theorem v_params:VP ws m (q1r ws nb):=fun t o hm ht=>by
 unfold q1r;refine PV.ite (fun hc=> ?_) fun _=>PV.ok_ (Nat.le_refl _) ht;refine PV.then_ (PV.enter [40]) fun x t1 o1 h1 g1=>PV.then_ (v_param (m:=m) t1 o1 (by omega) g1) fun p t2 o2 h2 g2=> ?_;refine PV.then_ (b1:=t2) (PV.loop (m:=m) (fun q t3 o3 h3 g3=> ?_) _ _ t2 o2 (by omega) g2 (by omega)) fun l t3 o3 h3 g3=>PV.then_ (PV.leave [41]) fun _ t4 _ h4 g4=>PV.ok_ (by omega) g4;exact PL.ite (fun hc=>PL.then_ (PV.take (q0v hc)) fun _ t4 o4 h4 g4=>PL.then_ (v_param (m:=m) t4 o4 (by omega) g4) fun b t5 o5 h5 g5=>PL.go (by omega) g5) fun _=>PL.no (Nat.le_refl _) g3
theorem v_link (hP:VP ws (m+1) P) (hO:∀ l,1≤l→VP ws (m+1) (O l)) {t o:Nat} (hm:m≤t) (ht:t≤ws.length):match q2n ws nb P O t o with
 | .ok r t' _=>(r.2=true→t<t')∧t≤t'∧t'≤ws.length
 | .bad e _=>e≠0:=by
 have key:∀ {γ:Type} {x:PM γ} {f: γ→PM (NT × Bool)} {t0 o0 b1:Nat},PV ws.length b1 (x t0 o0)→(∀ p t' o',b1≤t'→t'≤ws.length→(match f p t' o' with
  | .ok r t' _=>(r.2=true→t<t')∧t≤t'∧t'≤ws.length
  | .bad e _=>e≠0))→(match q07 x f t0 o0 with
  | .ok r t' _=>(r.2=true→t<t')∧t≤t'∧t'≤ws.length
  | .bad e _=>e≠0):=by
  intro γ x f t0 o0 b1 h hf;unfold q07
  cases hx:x t0 o0 with
  | ok p t' o'=>rw [hx] at h;exact hf p t' o' h.1 h.2
  | bad e z=>rw [hx] at h;exact h
 unfold q2n;by_cases h1:syP ws t [100,101,102]=true
 · rw [if_pos h1];exact key (PV.enter _) fun x t1 o1 h1 g1=>key (PV.be 1 (by decide)) fun x2 t2 o2 h2 g2=>key (v_params (m:=m) t2 o2 (by omega) g2) fun l t3 o3 h3 g3=>key (PV.must _) fun _ t4 o4 h4 g4=>key (hP t4 o4 (by omega) g4) fun A t5 o5 h5 g5=>key (PV.leave _) fun _ t6 o6 h6 g6=>⟨fun _=>by omega,by omega,g6⟩
 rw [if_neg h1];by_cases h2:syP ws t [108,97,98,101,108]=true
 · rw [if_pos h2];exact key (PV.take (q0v h2)) fun x t1 o1 h1 g1=>key (PV.be 3 (by decide)) fun x2 t2 o2 h2 g2=>key (PV.must _) fun _ t3 o3 h3 g3=>⟨fun _=>by omega,by omega,g3⟩
 rw [if_neg h2];refine key (v_unary hP hO t o hm ht) fun A t1 o1 h1 g1=> ?_;by_cases h3:syP ws t [45]=false∧syP ws t1 [97,115]=true
 · rw [if_pos h3];exact key (PV.take (q0v h3.2)) fun x t2 o2 h2 g2=>key (PV.be 3 (by decide)) fun x2 t3 o3 h3 g3=>key (PV.must _) fun _ t4 o4 h4 g4=>⟨fun _=>by omega,by omega,g4⟩
 · rw [if_neg h3];refine key (v_behind (m:=m) hO (Nat.le_refl 1) A t1 o1 (by omega) g1) fun C t2 o2 h2 g2=> ?_;by_cases h4:syP ws t2 [124]=true
   · rw [if_pos h4];have:=q0v h4;exact ⟨fun _=>by omega,by omega,this⟩
   · rw [if_neg h4];exact ⟨(fun h=>by cases h),by omega,g2⟩
theorem v_pipe (hP:VP ws (m+1) P) (hO:∀ l,1≤l→VP ws (m+1) (O l)):VP ws m (pipeP ws nb P O):=fun t o hm ht=>by
 unfold pipeP;refine PV.loop (m:=m) (fun p t1 o1 h1 g1=> ?_) _ _ t o hm ht (by omega);have h:=v_link (nb:=nb) (t:=t1) (o:=o1) hP hO h1 g1;unfold q07
 cases hx:q2n ws nb P O t1 o1 with
 | bad e z=>rw [hx] at h;exact h
 | ok r t2 o2=>
  rw [hx] at h;show PL ws.length t1 ((if r.2=true then _ else _:PM _) t2 o2);by_cases hr:r.2=true
  · rw [if_pos hr];exact PL.go (h.1 hr) h.2.2
  · rw [if_neg hr];exact PL.no h.2.1 h.2.2
theorem v_operand (hP:VP ws (m+1) P) (hO:∀ l,1≤l→VP ws (m+1) (O l)) {l:Nat} (hl:1≤l):VP ws m (q1Z ws nb P O l):=fun t o hm ht=>
 PV.then_ (v_unary hP hO t o hm ht) fun A t1 o1 h1 g1=>(v_behind (m:=m) hO hl A t1 o1 (by omega) g1).low h1
theorem v_po:∀ (k:Nat),VP ws (ws.length+1-k) (poP ws nb k).1∧∀ l,1≤l→VP ws (ws.length+1-k) ((poP ws nb k).2 l)
 | 0=>⟨fun t o h1 h2=>by omega,fun l _ t o h1 h2=>by omega⟩
 | k+1=>by
  obtain ⟨h1,h2⟩:=v_po k;by_cases hk:k≤ws.length
  · have e:ws.length+1-(k+1)+1=ws.length+1-k:=by omega
    exact ⟨v_pipe (e▸h1) (e▸h2),fun l hl=>v_operand (e▸h1) (e▸h2) hl⟩
  · have h3:VP ws (0+1) (poP ws nb k).1:=fun t o h3 h4=>h1 t o (by omega) h4;have h4:∀ l,1≤l→VP ws (0+1) ((poP ws nb k).2 l):=fun l hl t o h3 h4=>h2 l hl t o (by omega) h4;rw [show ws.length+1-(k+1)=0 by omega];exact ⟨v_pipe h3 h4,fun l hl=>v_operand h3 h4 hl⟩
theorem v_whole:PV ws.length 0 (q2b ws nb):=by
 unfold q2b;have h:=(v_po (ws:=ws) (nb:=nb) (ws.length+1)).1 0 0 (by omega) (Nat.zero_le _);exact PV.then_ h fun A t o _ h2=>PV.ite (fun _=>PV.ft) fun _=>PV.ok_ (Nat.zero_le _) h2
theorem whole_nz {e q:Nat} (h:q2b ws nb= .bad e q):e≠0:=by
 have:=v_whole (ws:=ws) (nb:=nb);rw [h] at this;exact this
end
end Go.Proofs.YtbpopnafcpfifaaGreatDoor
