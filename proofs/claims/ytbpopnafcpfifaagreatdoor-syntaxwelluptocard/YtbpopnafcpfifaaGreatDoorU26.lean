import Derived.Test.YtbpopnafcpfifaaGreatDoorU25
import Derived.Test.YtbpopnafcpfifaaGreatDoorU18
set_option linter.unusedVariables false
set_option linter.unusedSimpArgs false
namespace Go.Proofs.YtbpopnafcpfifaaGreatDoor
open Go.RowKit Go.Shelf
abbrev PM (α:Type):=Nat→Nat→Pr α
def Pr.bd {α β:Type} (x:Pr α) (f: α→PM β):Pr β:=match x with
 | .ok a t o=>f a t o
 | .bad e q=> .bad e q
def pOk {α:Type} (a: α):PM α:=fun t o=> .ok a t o
def q07 {α β:Type} (x:PM α) (f: α→PM β):PM β:=fun t o=>(x t o).bd f
def lpP {α β:Type} (body: α→PM (α ⊕ β)):Nat→ α→PM β
 | 0,_=>fun _ _=> .bad 0 0
 | f+1,a=>q07 (body a) fun r=>match r with
  | .inl a'=>lpP body f a'
  | .inr b=>pOk b
def vtN:VT:= .mk 0 .empty .empty [] []
def ndP (op:Int) (at_:Nat) (kids:List NT):NT:= .mk op (at_:Int) .empty vtN [] kids
def txP (op:Int) (at_:Nat) (text:List UInt8) (kids:List NT):NT:= .mk op (at_:Int) ⟨text.toArray⟩ vtN [] kids
def cnP (at_:Nat) (v:VT):NT:= .mk 2 (at_:Int) .empty v [] []
def q0m (x:Tok):NT:=cnP x.at_ (.mk 4 .empty ⟨x.text.toArray⟩ [] [])
def idxP (at_:Nat) (of key:NT):NT:=ndP 7 at_ [of,key]
def q22 (at_:Nat):NT:=ndP 1 at_ []
def fldP (x:Tok):NT:=idxP x.at_ (q22 x.at_) (q0m x)
def varP (x:Tok):NT:=txP 6 x.at_ x.text []
def addK (A k:NT):NT:= .mk A.op A.at_ A.text A.value A.names (A.kids++[k])
def q0p (ws:List NT) (p:NT):NT:=ws.foldr addK p
section
variable (ws:List Tok) (nb:Nat)
def pFt {α:Type}:PM α:=fun t _=> .bad (ftE ws t) (ftQ ws nb t)
def q0E:PM Tok:=fun t o=> .ok (hrP ws t) (t+1) o
def isP (k:Nat) (t:Nat):Bool:=(hrP ws t).kind==k
def q19 (s:List UInt8):PM Tok:=fun t o=>if syP ws t s then q0E ws t o else pFt ws nb t o
def pBe (k:Nat):PM Tok:=fun t o=>if isP ws k t then q0E ws t o else pFt ws nb t o
def q24:PM Tok:=fun t o=>if o=64 then .bad 172 (hrP ws t).at_ else .ok (hrP ws t) (t+1) (o+1)
def q13 (s:List UInt8):PM Tok:=fun t o=>if syP ws t s then q24 ws t o else pFt ws nb t o
def q0F (s:List UInt8):PM Unit:=q07 (q19 ws nb s) fun _ t o=> .ok () t (o-1)
def opTz:List (List UInt8 × Nat × Nat × Nat):=[([44],13,1,0),([61],36,2,2),([124,61],37,2,2),([43,61],38,2,2),([45,61],39,2,2),([42,61],40,2,2),([47,61],41,2,2),([37,61],42,2,2),([47,47,61],43,2,2),([47,47],27,3,1),([111,114],26,4,0),([97,110,100],25,5,0),([61,61],19,6,2),([33,61],20,6,2),([60],21,6,2),([60,61],22,6,2),([62],23,6,2),([62,61],24,6,2),([43],14,7,0),([45],15,7,0),([42],16,8,0),([47],17,8,0),([37],18,8,0)]
def opZ (t:Nat):List UInt8 × Nat × Nat × Nat:=let x:=hrP ws t;if x.kind=10∨x.kind=2 then (opTz.find? (fun r=>r.1==x.text)).getD ([],0,0,0) else ([],0,0,0)
section
variable (P:PM NT) (O:Nat→PM NT)
def q1O:PM NT:=q07 (q13 ws nb [40]) fun _=>q07 P fun n=>q07 (q0F ws nb [41]) fun _=>pOk n
def listP:PM NT:=q07 (q13 ws nb [91]) fun x=>q07 (fun t o=>if syP ws t [93] then .ok [] t o else q07 P (fun n=>pOk [n]) t o) fun ks=>q07 (q0F ws nb [93]) fun _=>pOk (ndP 4 x.at_ ks)
def q1K:PM NT:=fun t o=>if isP ws 6 t then q07 (q0E ws) (fun x=>pOk (q0m x)) t o else if isP ws 7 t then
 q07 (q24 ws) (fun x0=>q07 (lpP (fun (a:List NT × Tok)=>q07 P fun n t o=>if isP ws 8 t then .ok (.inl (a.1++[q0m a.2,n],hrP ws t)) (t+1) o else .ok (.inr (a.1++[q0m a.2,n])) t o) (ws.length+1) ([],x0)) fun ks=>
  q07 (pBe ws nb 9) fun x t o=> .ok (ndP 3 x0.at_ (ks++[q0m x])) t (o-1)) t o
 else pFt ws nb t o
def q1C (ks:List NT) (least most:Nat):PM (List NT):=q07 (q13 ws nb [40]) fun _=>q07 P fun n=>q07 (lpP (fun (a:Nat × List NT) t o=>if a.1<most then (if least≤a.1∧syP ws t [59]=false then .ok (.inr a.2) t o else q07 (q19 ws nb [59]) (fun _=>q07 P fun k=>pOk (.inl (a.1+1,a.2++[k]))) t o) else .ok (.inr a.2) t o) (ws.length+1) (1,ks++[n])) fun ks=>q07 (q0F ws nb [41]) fun _=>pOk ks
def q1y (at_:Nat):PM NT:=q07 P fun c=>q07 (q19 ws nb [116,104,101,110]) fun _=>q07 P fun n=>pOk (ndP 28 at_ [c,n])
def q1d:PM NT:=q07 (q13 ws nb [105,102]) fun x=>q07 (q1y ws nb P x.at_) fun b=>q07 (lpP (fun (a:List NT) t o=>if syP ws t [101,108,105,102] then q07 (q0E ws) (fun y=>q07 (q1y ws nb P y.at_) fun b=>pOk (.inl (a++[b]))) t o else .ok (.inr a) t o) (ws.length+1) [b]) fun bs=>
 q07 (fun t o=>if syP ws t [101,108,115,101] then q07 (q0E ws) (fun _=>P) t o else .ok (q22 (hrP ws t).at_) t o) fun n=>q07 (q0F ws nb [101,110,100]) fun _=>pOk (q0p bs n)
def q1a (ks:List NT):PM (List NT):=fun t o=>let x:=hrP ws t
 if x.kind=1∨x.kind=2∨x.kind=6∨x.kind=3 then
  (if syP ws (t+1) [58] then q07 (q19 ws nb [58]) (fun _=>q07 (O 3) fun n=>pOk (ks++[q0m x,n])) (t+1) o else .ok (ks++[q0m x,if x.kind=3 then varP x else fldP x]) (t+1) o)
 else q07 (if x.kind=7 then q1K ws nb P else q1O ws nb P) (fun k=>q07 (q19 ws nb [58]) fun _=>q07 (O 3) fun n=>pOk (ks++[k,n])) t o
def q1e:PM NT:=q07 (q13 ws nb [123]) fun x=>q07 (fun t o=>if syP ws t [125] then .ok [] t o else q07 (q1a ws nb P O []) (fun ks=>lpP (fun (a:List NT) t o=>if syP ws t [44] then q07 (q0E ws) (fun _=>q07 (q1a ws nb P O a) fun b=>pOk (.inl b)) t o else .ok (.inr a) t o) (ws.length+1) ks) t o) fun ks=>q07 (q0F ws nb [125]) fun _=>pOk (ndP 5 x.at_ ks)
def callP:PM NT:=q07 (q0E ws) fun x t o=>if syP ws t [40] then q07 (q1C ws nb P [] 1 9223372036854775807) (fun ks=>pOk (txP 33 x.at_ x.text ks)) t o else .ok (txP 33 x.at_ x.text []) t o
def q20:PM NT:=fun t o=>let x:=hrP ws t
 if x.kind=10 then
  (if x.text=[46] then q07 (q0E ws) (fun _ t o=>if isP ws 6 t||isP ws 7 t then q07 (q1K ws nb P) (fun k=>pOk (idxP x.at_ (q22 x.at_) k)) t o else .ok (q22 x.at_) t o) t o
   else if x.text=[46,46] then .ok (txP 33 x.at_ [114,101,99,117,114,115,101] []) (t+1) o
   else if x.text=[40] then q1O ws nb P t o else if x.text=[91] then listP ws nb P t o else if x.text=[123] then q1e ws nb P O t o else pFt ws nb t o)
 else if x.kind=2 then
  (if x.text=[110,117,108,108] then .ok (cnP x.at_ vtN) (t+1) o else if x.text=[116,114,117,101] then .ok (cnP x.at_ (.mk 2 .empty .empty [] [])) (t+1) o
   else if x.text=[102,97,108,115,101] then .ok (cnP x.at_ (.mk 1 .empty .empty [] [])) (t+1) o else if x.text=[105,102] then q1d ws nb P t o
   else if x.text=[98,114,101,97,107] then q07 (q0E ws) (fun _=>q07 (pBe ws nb 3) fun y=>pOk (txP 35 x.at_ y.text [])) t o else pFt ws nb t o)
 else if x.kind=4 then .ok (fldP x) (t+1) o
 else if x.kind=5 then .ok (cnP x.at_ (.mk 3 ⟨x.text.toArray⟩ .empty [] [])) (t+1) o
 else if x.kind=6∨x.kind=7 then q1K ws nb P t o
 else if x.kind=3 then .ok (varP x) (t+1) o
 else if x.kind=1 then callP ws nb P t o
 else pFt ws nb t o
def q15 (of:NT):PM NT:=q07 (q13 ws nb [91]) fun x t o=>
 if syP ws t [93] then q07 (q0F ws nb [93]) (fun _=>pOk (ndP 9 x.at_ [of])) t o
 else if syP ws t [58] then q07 (q0E ws) (fun _=>q07 P fun n=>q07 (q0F ws nb [93]) fun _=>pOk (ndP 8 x.at_ [of,ndP 0 0 [],n])) t o
 else q07 P (fun m t o=>if syP ws t [93] then q07 (q0F ws nb [93]) (fun _=>pOk (idxP x.at_ of m)) t o
  else q07 (q19 ws nb [58]) (fun _ t o=>if syP ws t [93] then q07 (q0F ws nb [93]) (fun _=>pOk (ndP 8 x.at_ [of,m,ndP 0 0 []])) t o else q07 P (fun n=>q07 (q0F ws nb [93]) fun _=>pOk (ndP 8 x.at_ [of,m,n])) t o) t o) t o
def q0s:NT→PM NT:=lpP (fun (a:NT) t o=>
 if isP ws 4 t then .ok (.inl (idxP (hrP ws t).at_ a (q0m (hrP ws t)))) (t+1) o
 else if syP ws t [46] then q07 (q0E ws) (fun x=>q07 (q1K ws nb P) fun k=>pOk (.inl (idxP x.at_ a k))) t o
 else if syP ws t [91] then q07 (q15 ws nb P a) (fun n=>pOk (.inl n)) t o
 else if syP ws t [63] then .ok (.inl (ndP 10 (hrP ws t).at_ [a])) (t+1) o
 else .ok (.inr a) t o) (ws.length+1)
def q0U (t:Nat):Option NT:=let x:=hrP ws t
 if syP ws t [116,114,121] then some (ndP 10 x.at_ []) else if syP ws t [114,101,100,117,99,101] then some (ndP 30 x.at_ []) else if syP ws t [102,111,114,101,97,99,104] then some (ndP 31 x.at_ []) else none
def q0i (A:NT):PM NT:=if A.op=30∨A.op=31 then q07 (q19 ws nb [97,115]) fun _=>q07 (pBe ws nb 3) fun x=>q07 (q1C ws nb P A.kids 2 (if A.op=30 then 2 else 3)) fun ks=>pOk (.mk A.op A.at_ ⟨x.text.toArray⟩ A.value A.names ks) else pOk A
def q0D:List NT→NT→PM (List NT ⊕ NT)
 | [],out=>pOk (.inr out)
 | last::rest,out=>let A:=addK last out
   fun t o=>if A.op=10∧A.kids.length=1∧syP ws t [99,97,116,99,104]=true then .ok (.inl (A::rest)) (t+1) o
    else q07 (q0i ws nb P A) (fun B=>q07 (q0s ws nb P B) fun C=>q0D rest C) t o
def postP:PM NT:=lpP (fun (a:List NT)=>q07 (lpP (fun (b:List NT) t o=>match q0U ws t with
 | some A=> .ok (.inl (A::b)) (t+1) o
 | none=> .ok (.inr b) t o) (ws.length+1) a) fun b=>q07 (q20 ws nb P O) fun n=>q07 (q0s ws nb P n) fun m=>q0D ws nb P b m) (ws.length+1) []
def q1I:PM NT:=q07 (lpP (fun (a:List NT) t o=>if syP ws t [45] then .ok (.inl (a++[ndP 11 (hrP ws t).at_ []])) (t+1) o else .ok (.inr a) t o) (ws.length+1) []) fun ss=>q07 (postP ws nb P O) fun n=>pOk (q0p ss n)
def q1f (least:Nat) (left:NT):PM NT:=lpP (fun (a:List NT × NT × Nat) t o=>let r:=opZ ws t
    if r.2.2.1<least∨a.2.2<r.2.2.1 then .ok (.inr (q0p a.1 a.2.1)) t o
    else q07 (O (r.2.2.1+1)) (fun n=>if r.2.2.2=1 then pOk (.inl (a.1++[ndP r.2.1 (hrP ws t).at_ [a.2.1]],n,r.2.2.1)) else pOk (.inl ([],ndP r.2.1 (hrP ws t).at_ [q0p a.1 a.2.1,n],if r.2.2.2=2 then r.2.2.1-1 else r.2.2.1))) (t+1) o) (ws.length+1) ([],left,8)
def q1Z (least:Nat):PM NT:=q07 (q1I ws nb P O) fun n=>q1f ws O least n
def q1l:PM ByteArray:=fun t o=>if isP ws 3 t then .ok ⟨(36::(hrP ws t).text).toArray⟩ (t+1) o else q07 (pBe ws nb 1) (fun x=>pOk ⟨x.text.toArray⟩) t o
def q1r:PM (List ByteArray):=fun t o=>if syP ws t [40] then q07 (q13 ws nb [40]) (fun _=>q07 (q1l ws nb) fun a=>q07 (lpP (fun (l:List ByteArray) t o=>if syP ws t [59] then q07 (q0E ws) (fun _=>q07 (q1l ws nb) fun b=>pOk (.inl (l++[b]))) t o else .ok (.inr l) t o) (ws.length+1) [a]) fun l=>q07 (q0F ws nb [41]) fun _=>pOk l) t o else .ok [] t o
def q2n:PM (NT × Bool):=fun t o=>
 if syP ws t [100,101,102] then q07 (q13 ws nb [100,101,102]) (fun x=>q07 (pBe ws nb 1) fun y=>q07 (q1r ws nb) fun l=>q07 (q19 ws nb [58]) fun _=>q07 P fun n=>q07 (q0F ws nb [59]) fun _=>pOk (.mk 32 (x.at_:Int) ⟨y.text.toArray⟩ vtN l [n],true)) t o
 else if syP ws t [108,97,98,101,108] then q07 (q0E ws) (fun x=>q07 (pBe ws nb 3) fun y=>q07 (q19 ws nb [124]) fun _=>pOk (txP 34 x.at_ y.text [],true)) t o
 else q07 (q1I ws nb P O) (fun n t1 o1=>if syP ws t [45]=false∧syP ws t1 [97,115]=true then q07 (q0E ws) (fun x=>q07 (pBe ws nb 3) fun y=>q07 (q19 ws nb [124]) fun _=>pOk (txP 29 x.at_ y.text [n],true)) t1 o1
  else q07 (q1f ws O 1 n) (fun m t2 o2=>if syP ws t2 [124] then .ok (ndP 12 (hrP ws t2).at_ [m],true) (t2+1) o2 else .ok (m,false) t2 o2) t1 o1) t o
def pipeP:PM NT:=lpP (fun (a:List NT)=>q07 (q2n ws nb P O) fun r=>if r.2 then pOk (.inl (a++[r.1])) else pOk (.inr (q0p a r.1))) (ws.length+1) []
end
def poP:Nat→PM NT × (Nat→PM NT)
 | 0=>(fun _ _=> .bad 0 0,fun _ _ _=> .bad 0 0)
 | n+1=>(pipeP ws nb (poP n).1 (poP n).2,q1Z ws nb (poP n).1 (poP n).2)
def q2b:Pr NT:=q07 (poP ws nb (ws.length+1)).1 (fun n t o=>if t<ws.length then pFt ws nb t o else .ok n t o) 0 0
end
end Go.Proofs.YtbpopnafcpfifaaGreatDoor
namespace Go.Proofs.YtbpopnafcpfifaaGreatDoor
open Go.RowKit Go.Shelf
def MvA {α:Type} (L k:Nat) (x:PM α) (t:Nat):Prop:=∀ o a t' o',x t o= .ok a t' o'→t+k≤t'∧t'≤L
def Mv {α:Type} (L k:Nat) (x:PM α):Prop:=∀ t,t≤L→MvA L k x t
theorem q17 {α:Type} {L:Nat} (a: α):Mv L 0 (pOk a):=fun t ht o b t' o' h=>by
 injection h with h1 h2 h3;omega
theorem q0t {α:Type} {L i j:Nat} {x:PM α} (h:Mv L i x) (hj:j≤i):Mv L j x:=fun t ht o a t' o' e=>by
 have:=h t ht o a t' o' e;omega
theorem q0O {α β:Type} {L i j k t:Nat} {x:PM α} {f: α→PM β} (hx:MvA L i x t) (hf:∀ a,Mv L j (f a)) (hk:k≤i+j):MvA L k (q07 x f) t:=fun o b t' o' e=>by
 unfold q07 at e
 cases hxx:x t o with
 | bad e1 q=>rw [hxx] at e;cases e
 | ok a t1 o1=>
  rw [hxx] at e;have h1:=hx o a t1 o1 hxx;have h2:=hf a t1 h1.2 o1 b t' o' e;omega
theorem q0b {α β:Type} {L i j k:Nat} {x:PM α} {f: α→PM β} (hx:Mv L i x) (hf:∀ a,Mv L j (f a)) (hk:k≤i+j):Mv L k (q07 x f):=fun t ht=>q0O (hx t ht) hf hk
theorem q1F {α β:Type} {L:Nat} {body: α→PM (α ⊕ β)} (hb:∀ a t o r t' o',t≤L→body a t o= .ok r t' o'→t≤t'∧t'≤L):∀ (f:Nat) (a: α),Mv L 0 (lpP body f a)
 | 0,a=>fun t ht o b t' o' e=>by cases e
 | f+1,a=>fun t ht o b t' o' e=>by
  unfold lpP q07 at e
  cases hxx:body a t o with
  | bad e1 q=>rw [hxx] at e;cases e
  | ok r t1 o1=>
   rw [hxx] at e;have h1:=hb a t o r t1 o1 ht hxx
   cases r with
   | inl a'=>
    have h2:=q1F hb f a' t1 h1.2 o1 b t' o' e;omega
   | inr b'=>
    injection e with e1 e2 e3;omega
section
variable {ws:List Tok} {nb:Nat}
theorem hr_none {t:Nat} (h:ws.length≤t):hrP ws t=⟨0,0,0,[],0⟩:=by
 unfold hrP;rw [List.getD_eq_getElem?_getD,List.getElem?_eq_none h];rfl
theorem q0v {t:Nat} {s:List UInt8} (h:syP ws t s=true):t<ws.length:=by
 by_cases hl:t<ws.length
 · exact hl
 · unfold syP at h;rw [hr_none (by omega)] at h;simp at h
theorem q1M {t k:Nat} (hk:k≠0) (h:isP ws k t=true):t<ws.length:=by
 by_cases hl:t<ws.length
 · exact hl
 · unfold isP at h;rw [hr_none (by omega)] at h;simp at h;omega
theorem q0B (s:List UInt8):Mv ws.length 1 (q19 ws nb s):=fun t ht o a t' o' e=>by
 unfold q19 at e;by_cases h:syP ws t s=true
 · rw [if_pos h] at e;have:=q0v h;injection e with e1 e2 e3;omega
 · rw [if_neg h] at e
   cases e
theorem mv_be {k:Nat} (hk:k≠0):Mv ws.length 1 (pBe ws nb k):=fun t ht o a t' o' e=>by
 unfold pBe at e;by_cases h:isP ws k t=true
 · rw [if_pos h] at e;have:=q1M hk h;injection e with e1 e2 e3;omega
 · rw [if_neg h] at e
   cases e
theorem mva_open {t:Nat} (hl:t<ws.length):MvA ws.length 1 (q24 ws) t:=fun o a t' o' e=>by
 unfold q24 at e;by_cases h:o=64
 · rw [if_pos h] at e;cases e
 · rw [if_neg h] at e;injection e with e1 e2 e3;omega
theorem q0K (s:List UInt8):Mv ws.length 1 (q13 ws nb s):=fun t ht o a t' o' e=>by
 unfold q13 at e;by_cases h:syP ws t s=true
 · rw [if_pos h] at e;exact mva_open (q0v h) o a t' o' e
 · rw [if_neg h] at e
   cases e
theorem q0u (s:List UInt8):Mv ws.length 1 (q0F ws nb s):=q0b (q0B s) (j:=0) (fun a t ht o b t' o' e=>by
 injection e with e1 e2 e3;omega) (by omega)
theorem q16 {t:Nat} (hl:t<ws.length):MvA ws.length 1 (q0E ws) t:=fun o a t' o' e=>by
 injection e with e1 e2 e3;omega
variable {P:PM NT} {O:Nat→PM NT}
theorem mv_group (hP:Mv ws.length 0 P):Mv ws.length 1 (q1O ws nb P):=
 q0b (q0K _) (j:=0) (fun _=>q0b hP (j:=0) (fun n=>q0b (q0u _) (j:=0) (fun _=>q17 n) (by omega)) (by omega)) (by omega)
theorem mv_list (hP:Mv ws.length 0 P):Mv ws.length 1 (listP ws nb P):=
 q0b (q0K _) (j:=0) (fun x=>q0b (i:=0) (j:=0) (fun t ht o a t' o' e=>by
  by_cases h:syP ws t [93]=true
  · simp only [if_pos h] at e;injection e with e1 e2 e3;omega
  · simp only [if_neg h] at e;exact q0b hP (j:=0) (k:=0) (fun n=>q17 [n]) (by omega) t ht o a t' o' e) (fun ks=>q0b (q0u _) (j:=0) (fun _=>q17 _) (by omega)) (by omega)) (by omega)
end
section
variable {ws:List Tok} {nb:Nat} {P:PM NT} {O:Nat→PM NT}
theorem q0j {α:Type} {L t k n:Nat} {o1 o':Nat} {a b: α} {t':Nat} (e:(.ok a n o1:Pr α)= .ok b t' o') (h1:t+k≤n) (h2:n≤L):t+k≤t'∧t'≤L:=by
 injection e with e1 e2 e3;omega
theorem mv_text (hP:Mv ws.length 0 P):Mv ws.length 1 (q1K ws nb P):=fun t ht o a t' o' e=>by
 unfold q1K at e;by_cases h6:isP ws 6 t=true
 · rw [if_pos h6] at e;exact q0O (q16 (q1M (by decide) h6)) (j:=0) (fun x=>q17 _) (by omega) o a t' o' e
 · rw [if_neg h6] at e;by_cases h7:isP ws 7 t=true
   · rw [if_pos h7] at e;refine q0O (mva_open (q1M (by decide) h7)) (j:=0) (fun x0=>q0b (i:=0) (j:=0) (q1F (fun a t o r t' o' ht e=> ?_) _ _) (fun ks=>q0t (i:=1) (q0b (mv_be (by decide)) (j:=0) (fun x t ht o a t' o' e=>q0j e (by omega) ht) (by omega)) (by omega)) (by omega)) (by omega) o a t' o' e;refine q0b hP (j:=0) (k:=0) (fun n t ht o r t' o' e=> ?_) (by omega) t ht o r t' o' e;by_cases h8:isP ws 8 t=true
     · simp only [if_pos h8] at e;exact q0j e (by omega) (q1M (by decide) h8)
     · simp only [if_neg h8] at e;exact q0j e (by omega) ht
   · rw [if_neg h7] at e
     cases e
theorem mv_pipes (hP:Mv ws.length 0 P) (ks:List NT) (least most:Nat):Mv ws.length 1 (q1C ws nb P ks least most):=
 q0b (q0K _) (j:=0) (fun _=>q0b hP (j:=0) (fun n=>q0b (i:=0) (j:=0) (q1F (fun a t o r t' o' ht e=>by
  by_cases h1:a.1<most
  · simp only [if_pos h1] at e;by_cases h2:least≤a.1∧syP ws t [59]=false
    · simp only [if_pos h2] at e;exact q0j e (k:=0) (by omega) ht
    · simp only [if_neg h2] at e;exact q0t (q0b (q0B _) (j:=0) (k:=1) (fun _=>q0b hP (j:=0) (k:=0) (fun k=>q17 _) (by omega)) (by omega)) (j:=0) (by omega) t ht o r t' o' e
  · simp only [if_neg h1] at e;exact q0j e (k:=0) (by omega) ht) _ _) (fun ks=>q0t (q0b (q0u _) (j:=0) (k:=1) (fun _=>q17 _) (by omega)) (by omega)) (by omega)) (by omega)) (by omega)
theorem mv_branch (hP:Mv ws.length 0 P) (at_:Nat):Mv ws.length 0 (q1y ws nb P at_):=
 q0b hP (j:=0) (fun c=>q0b (q0B _) (j:=0) (fun _=>q0b hP (j:=0) (fun n=>q17 _) (by omega)) (by omega)) (by omega)
theorem mv_choice (hP:Mv ws.length 0 P):Mv ws.length 1 (q1d ws nb P):=
 q0b (q0K _) (j:=0) (fun x=>q0b (mv_branch hP _) (j:=0) (fun b=>q0b (i:=0) (j:=0) (q1F (fun a t o r t' o' ht e=>by
  by_cases h:syP ws t [101,108,105,102]=true
  · simp only [if_pos h] at e;have:=q0O (q16 (q0v h)) (j:=0) (k:=1) (fun y=>q0b (mv_branch hP _) (j:=0) (k:=0) (fun b=>q17 _) (by omega)) (by omega) o r t' o' e;omega
  · simp only [if_neg h] at e;exact q0j e (k:=0) (by omega) ht) _ _) (fun bs=>q0b (i:=0) (j:=0) (fun t ht o a t' o' e=>by
  by_cases h:syP ws t [101,108,115,101]=true
  · simp only [if_pos h] at e;have:=q0O (q16 (q0v h)) (j:=0) (k:=1) (fun _=>hP) (by omega) o a t' o' e;omega
  · simp only [if_neg h] at e;exact q0j e (by omega) ht) (fun n=>q0t (q0b (q0u _) (j:=0) (k:=1) (fun _=>q17 _) (by omega)) (by omega)) (by omega)) (by omega)) (by omega)) (by omega)
theorem q2y {t:Nat} (h:(hrP ws t).kind≠0):t<ws.length:=by
 by_cases hl:t<ws.length
 · exact hl
 · rw [hr_none (by omega)] at h;exact absurd rfl h
theorem mv_entry (hP:Mv ws.length 0 P) (hO:∀ l,1≤l→Mv ws.length 0 (O l)) (ks:List NT):Mv ws.length 1 (q1a ws nb P O ks):=fun t ht o a t' o' e=>by
 unfold q1a at e;simp only at e;by_cases h:(hrP ws t).kind=1∨(hrP ws t).kind=2∨(hrP ws t).kind=6∨(hrP ws t).kind=3
 · rw [if_pos h] at e;have hl:=q2y (ws:=ws) (t:=t) (by omega);by_cases h2:syP ws (t+1) [58]=true
   · rw [if_pos h2] at e;have:=q0b (q0B [58]) (j:=0) (k:=1) (fun _=>q0b (hO 3 (by omega)) (j:=0) (k:=0) (fun n=>q17 _) (by omega)) (by omega) (t+1) (by omega) o a t' o' e;omega
   · rw [if_neg h2] at e;exact q0j e (by omega) (by omega)
 · rw [if_neg h] at e;refine q0O (i:=1) (j:=0) ?_ (fun k=>q0t (q0b (q0B _) (j:=0) (k:=1) (fun _=>q0b (hO 3 (by omega)) (j:=0) (k:=0) (fun n=>q17 _) (by omega)) (by omega)) (by omega)) (by omega) o a t' o' e;by_cases h7:(hrP ws t).kind=7
   · rw [if_pos h7];exact mv_text hP t ht
   · rw [if_neg h7];exact mv_group hP t ht
theorem mv_record (hP:Mv ws.length 0 P) (hO:∀ l,1≤l→Mv ws.length 0 (O l)):Mv ws.length 1 (q1e ws nb P O):=
 q0b (q0K _) (j:=0) (fun x=>q0b (i:=0) (j:=0) (fun t ht o a t' o' e=>by
  by_cases h:syP ws t [125]=true
  · simp only [if_pos h] at e;exact q0j e (by omega) ht
  · simp only [if_neg h] at e
    have:=q0b (mv_entry hP hO []) (j:=0) (k:=1) (fun ks=>q1F (fun a t o r t' o' ht e=>by
     by_cases h:syP ws t [44]=true
     · simp only [if_pos h] at e;have:=q0O (q16 (q0v h)) (j:=0) (k:=1) (fun _=>q0t (q0b (mv_entry hP hO a) (j:=0) (k:=1) (fun b=>q17 _) (by omega)) (by omega)) (by omega) o r t' o' e;omega
     · simp only [if_neg h] at e;exact q0j e (k:=0) (by omega) ht) _ _) (by omega) t ht o a t' o' e
    omega) (fun ks=>q0t (q0b (q0u _) (j:=0) (k:=1) (fun _=>q17 _) (by omega)) (by omega)) (by omega)) (by omega)
theorem mva_call (hP:Mv ws.length 0 P) {t:Nat} (hl:t<ws.length):MvA ws.length 1 (callP ws nb P) t:=
 q0O (q16 hl) (j:=0) (fun x t ht o a t' o' e=>by
  by_cases h:syP ws t [40]=true
  · simp only [if_pos h] at e;have:=q0b (mv_pipes hP [] 1 9223372036854775807) (j:=0) (k:=1) (fun ks=>q17 _) (by omega) t ht o a t' o' e;omega
  · simp only [if_neg h] at e;exact q0j e (by omega) ht) (by omega)
theorem mv_term (hP:Mv ws.length 0 P) (hO:∀ l,1≤l→Mv ws.length 0 (O l)):Mv ws.length 1 (q20 ws nb P O):=fun t ht o a t' o' e=>by
 unfold q20 at e;simp only at e
 split at e
 · have hl:=q2y (ws:=ws) (t:=t) (by omega)
   split at e
   · refine q0O (q16 hl) (j:=0) (fun x t ht o a t' o' e=> ?_) (by omega) o a t' o' e
     split at e
     · have:=q0b (mv_text hP) (j:=0) (k:=1) (fun k=>q17 _) (by omega) t ht o a t' o' e;omega
     · exact q0j e (by omega) ht
   · split at e
     · exact q0j e (by omega) (by omega)
     · split at e
       · exact mv_group hP t ht o a t' o' e
       · split at e
         · exact mv_list hP t ht o a t' o' e
         · split at e
           · exact mv_record hP hO t ht o a t' o' e
           · cases e
 · split at e
   · have hl:=q2y (ws:=ws) (t:=t) (by omega)
     split at e
     · exact q0j e (by omega) (by omega)
     · split at e
       · exact q0j e (by omega) (by omega)
       · split at e
         · exact q0j e (by omega) (by omega)
         · split at e
           · exact mv_choice hP t ht o a t' o' e
           · split at e
             · exact q0O (q16 hl) (j:=0) (fun _=>q0t (q0b (mv_be (by decide)) (j:=0) (k:=1) (fun y=>q17 _) (by omega)) (by omega)) (by omega) o a t' o' e
             · cases e
   · split at e
     · exact q0j e (by omega) (q2y (ws:=ws) (t:=t) (by omega))
     · split at e
       · exact q0j e (by omega) (q2y (ws:=ws) (t:=t) (by omega))
       · split at e
         · exact mv_text hP t ht o a t' o' e
         · split at e
           · exact q0j e (by omega) (q2y (ws:=ws) (t:=t) (by omega))
           · split at e
             · exact mva_call hP (q2y (ws:=ws) (t:=t) (by omega)) o a t' o' e
             · cases e
end
section
variable {ws:List Tok} {nb:Nat} {P:PM NT} {O:Nat→PM NT}
theorem q1B {α:Type} (s:List UInt8) (a: α):Mv ws.length 0 (q07 (q0F ws nb s) fun _=>pOk a):=q0t (q0b (q0u _) (j:=0) (k:=1) (fun _=>q17 _) (by omega)) (by omega)
theorem mv_bracket (hP:Mv ws.length 0 P) (of:NT):Mv ws.length 1 (q15 ws nb P of):=
 q0b (q0K _) (j:=0) (fun x t ht o a t' o' e=>by
  by_cases h1:syP ws t [93]=true
  · simp only [if_pos h1] at e;exact q1B _ _ t ht o a t' o' e
  · simp only [if_neg h1] at e;by_cases h2:syP ws t [58]=true
    · simp only [if_pos h2] at e;have:=q0O (q16 (q0v h2)) (j:=0) (k:=1) (fun _=>q0b hP (j:=0) (k:=0) (fun n=>q1B _ _) (by omega)) (by omega) o a t' o' e;omega
    · simp only [if_neg h2] at e;refine q0b hP (j:=0) (k:=0) (fun m t ht o a t' o' e=> ?_) (by omega) t ht o a t' o' e;by_cases h3:syP ws t [93]=true
      · simp only [if_pos h3] at e;exact q1B _ _ t ht o a t' o' e
      · simp only [if_neg h3] at e
        have:=q0b (q0B _) (j:=0) (k:=1) (fun _ t ht o a t' o' e=>by
         by_cases h4:syP ws t [93]=true
         · simp only [if_pos h4] at e;exact q1B _ _ t ht o a t' o' e
         · simp only [if_neg h4] at e;exact q0b hP (j:=0) (k:=0) (fun n=>q1B _ _) (by omega) t ht o a t' o' e) (by omega) t ht o a t' o' e
        omega) (by omega)
theorem q1g (hP:Mv ws.length 0 P) (a:NT):Mv ws.length 0 (q0s ws nb P a):=q1F (fun a t o r t' o' ht e=>by
 by_cases h1:isP ws 4 t=true
 · simp only [if_pos h1] at e;exact q0j e (k:=0) (by omega) (q1M (by decide) h1)
 · simp only [if_neg h1] at e;by_cases h2:syP ws t [46]=true
   · simp only [if_pos h2] at e;have:=q0O (q16 (q0v h2)) (j:=0) (k:=1) (fun x=>q0t (q0b (mv_text hP) (j:=0) (k:=1) (fun k=>q17 _) (by omega)) (by omega)) (by omega) o r t' o' e;omega
   · simp only [if_neg h2] at e;by_cases h3:syP ws t [91]=true
     · simp only [if_pos h3] at e;have:=q0b (mv_bracket hP a) (j:=0) (k:=1) (fun n=>q17 _) (by omega) t ht o r t' o' e;omega
     · simp only [if_neg h3] at e;by_cases h4:syP ws t [63]=true
       · simp only [if_pos h4] at e;exact q0j e (k:=0) (by omega) (q0v h4)
       · simp only [if_neg h4] at e;exact q0j e (k:=0) (by omega) ht) _ _
theorem q1R (hP:Mv ws.length 0 P) (A:NT):Mv ws.length 0 (q0i ws nb P A):=by
 unfold q0i
 split
 · exact q0t (q0b (q0B _) (j:=0) (k:=1) (fun _=>q0t (q0b (mv_be (by decide)) (j:=0) (k:=1) (fun x=>q0t (q0b (mv_pipes hP _ _ _) (j:=0) (k:=1) (fun ks=>q17 _) (by omega)) (by omega)) (by omega)) (by omega)) (by omega)) (by omega)
 · exact q17 A
theorem mv_unwind (hP:Mv ws.length 0 P):∀ (l:List NT) (out:NT),Mv ws.length 0 (q0D ws nb P l out)
 | [],out=>q17 _
 | last::rest,out=>fun t ht o a t' o' e=>by
  unfold q0D at e;simp only at e
  split at e
  · rename_i h
    exact q0j e (by omega) (q0v h.2.2)
  · exact q0b (q1R hP _) (j:=0) (k:=0) (fun B=>q0b (q1g hP B) (j:=0) (k:=0) (fun C=>mv_unwind hP rest C) (by omega)) (by omega) t ht o a t' o' e
theorem await_lt {t:Nat} {A:NT} (h:q0U ws t=some A):t<ws.length:=by
 unfold q0U at h;simp only at h
 split at h
 · rename_i h1;exact q0v h1
 · split at h
   · rename_i h1;exact q0v h1
   · split at h
     · rename_i h1;exact q0v h1
     · cases h
theorem mv_post1 (hP:Mv ws.length 0 P) (hO:∀ l,1≤l→Mv ws.length 0 (O l)) (a:List NT):Mv ws.length 1 (q07 (lpP (fun (b:List NT) t o=>match q0U ws t with
 | some A=> .ok (.inl (A::b)) (t+1) o
 | none=> .ok (.inr b) t o) (ws.length+1) a) fun b=>q07 (q20 ws nb P O) fun n=>q07 (q0s ws nb P n) fun m=>q0D ws nb P b m):=
 q0b (i:=0) (j:=1) (q1F (fun b t o r t' o' ht e=>by
  cases h:q0U ws t with
  | some A=>
   simp only [h] at e;exact q0j e (k:=0) (by omega) (await_lt h)
  | none=>
   simp only [h] at e;exact q0j e (k:=0) (by omega) ht) _ _) (fun b=>q0b (mv_term hP hO) (j:=0) (fun n=>q0b (q1g hP n) (j:=0) (fun m=>mv_unwind hP b m) (by omega)) (by omega)) (by omega)
theorem mv_loop1 {α β:Type} {L:Nat} {body: α→PM (α ⊕ β)} (hb:∀ a,Mv L 1 (body a)) (f:Nat) (a: α):Mv L 1 (lpP body f a):=by
 cases f with
 | zero=>exact fun t ht o b t' o' e=>by cases e
 | succ f=>
  refine q0b (hb a) (j:=0) (fun r=> ?_) (by omega)
  cases r with
  | inl a'=>exact q1F (fun a t o r t' o' ht e=>by have:=hb a t ht o r t' o' e;omega) f a'
  | inr b=>exact q17 b
theorem mv_post (hP:Mv ws.length 0 P) (hO:∀ l,1≤l→Mv ws.length 0 (O l)):Mv ws.length 1 (postP ws nb P O):=mv_loop1 (fun a=>mv_post1 hP hO a) _ _
theorem mv_unary (hP:Mv ws.length 0 P) (hO:∀ l,1≤l→Mv ws.length 0 (O l)):Mv ws.length 1 (q1I ws nb P O):=
 q0b (i:=0) (j:=1) (q1F (fun a t o r t' o' ht e=>by
  by_cases h:syP ws t [45]=true
  · simp only [if_pos h] at e;exact q0j e (k:=0) (by omega) (q0v h)
  · simp only [if_neg h] at e;exact q0j e (k:=0) (by omega) ht) _ _) (fun ss=>q0b (mv_post hP hO) (j:=0) (fun n=>q17 _) (by omega)) (by omega)
theorem op_lt {t:Nat} (h:(opZ ws t).2.2.1≠0):t<ws.length:=by
 by_cases hl:t<ws.length
 · exact hl
 · unfold opZ at h;rw [hr_none (by omega)] at h;simp at h
theorem mv_behind (hO:∀ l,1≤l→Mv ws.length 0 (O l)) (least:Nat) (hl:1≤least) (left:NT):Mv ws.length 0 (q1f ws O least left):=q1F (fun a t o r t' o' ht e=>by
 simp only at e;by_cases h:(opZ ws t).2.2.1<least∨a.2.2<(opZ ws t).2.2.1
 · rw [if_pos h] at e;exact q0j e (k:=0) (by omega) ht
 · rw [if_neg h] at e;have h1:=op_lt (ws:=ws) (t:=t) (by omega);have:=q0b (hO _ (by omega)) (j:=0) (k:=0) (fun n=>by split <;> exact q17 _) (by omega) (t+1) (by omega) o r t' o' e;omega) _ _
theorem mv_operand (hP:Mv ws.length 0 P) (hO:∀ l,1≤l→Mv ws.length 0 (O l)) (least:Nat) (hl:1≤least):Mv ws.length 1 (q1Z ws nb P O least):=
 q0b (mv_unary hP hO) (j:=0) (fun n=>mv_behind hO least hl n) (by omega)
theorem mv_param:Mv ws.length 1 (q1l ws nb):=fun t ht o a t' o' e=>by
 unfold q1l at e;by_cases h:isP ws 3 t=true
 · rw [if_pos h] at e;exact q0j e (by omega) (q1M (by decide) h)
 · rw [if_neg h] at e;exact q0b (mv_be (by decide)) (j:=0) (k:=1) (fun x=>q17 _) (by omega) t ht o a t' o' e
theorem mv_params:Mv ws.length 0 (q1r ws nb):=fun t ht o a t' o' e=>by
 unfold q1r at e;by_cases h:syP ws t [40]=true
 · rw [if_pos h] at e
   have:=q0b (q0K [40]) (j:=0) (k:=1) (fun _=>q0t (q0b mv_param (j:=0) (k:=1) (fun a=>q0b (i:=0) (j:=0) (k:=0) (q1F (fun l t o r t' o' ht e=>by
    by_cases h:syP ws t [59]=true
    · simp only [if_pos h] at e;have:=q0O (q16 (q0v h)) (j:=0) (k:=1) (fun _=>q0t (q0b mv_param (j:=0) (k:=1) (fun b=>q17 _) (by omega)) (by omega)) (by omega) o r t' o' e;omega
    · simp only [if_neg h] at e;exact q0j e (k:=0) (by omega) ht) _ _) (fun l=>q1B _ _) (by omega)) (by omega)) (by omega)) (by omega) t ht o a t' o' e
   omega
 · rw [if_neg h] at e;exact q0j e (by omega) ht
theorem mv_link (hP:Mv ws.length 0 P) (hO:∀ l,1≤l→Mv ws.length 0 (O l)):Mv ws.length 1 (q2n ws nb P O):=fun t ht o a t' o' e=>by
 unfold q2n at e;by_cases h1:syP ws t [100,101,102]=true
 · rw [if_pos h1] at e;exact q0b (q0K _) (j:=0) (k:=1) (fun x=>q0t (q0b (mv_be (by decide)) (j:=0) (k:=1) (fun y=>q0b mv_params (j:=0) (k:=0) (fun l=>q0t (q0b (q0B _) (j:=0) (k:=1) (fun _=>q0b hP (j:=0) (k:=0) (fun n=>q1B _ _) (by omega)) (by omega)) (by omega)) (by omega)) (by omega)) (by omega)) (by omega) t ht o a t' o' e
 · rw [if_neg h1] at e;by_cases h2:syP ws t [108,97,98,101,108]=true
   · rw [if_pos h2] at e;exact q0O (q16 (q0v h2)) (j:=0) (k:=1) (fun x=>q0t (q0b (mv_be (by decide)) (j:=0) (k:=1) (fun y=>q0t (q0b (q0B _) (j:=0) (k:=1) (fun _=>q17 _) (by omega)) (by omega)) (by omega)) (by omega)) (by omega) o a t' o' e
   · rw [if_neg h2] at e;refine q0b (mv_unary hP hO) (j:=0) (k:=1) (fun n t1 ht1 o1 a t' o' e=> ?_) (by omega) t ht o a t' o' e;by_cases h3:syP ws t [45]=false∧syP ws t1 [97,115]=true
     · simp only [if_pos h3] at e;have:=q0O (q16 (q0v h3.2)) (j:=0) (k:=1) (fun x=>q0t (q0b (mv_be (by decide)) (j:=0) (k:=1) (fun y=>q0t (q0b (q0B _) (j:=0) (k:=1) (fun _=>q17 _) (by omega)) (by omega)) (by omega)) (by omega)) (by omega) o1 a t' o' e;omega
     · simp only [if_neg h3] at e;refine q0b (mv_behind hO 1 (by omega) n) (j:=0) (k:=0) (fun m t2 ht2 o2 a t' o' e=> ?_) (by omega) t1 ht1 o1 a t' o' e;by_cases h4:syP ws t2 [124]=true
       · simp only [if_pos h4] at e;exact q0j e (by omega) (q0v h4)
       · simp only [if_neg h4] at e;exact q0j e (by omega) ht2
theorem mv_pipe (hP:Mv ws.length 0 P) (hO:∀ l,1≤l→Mv ws.length 0 (O l)):Mv ws.length 1 (pipeP ws nb P O):=mv_loop1 (fun a=>q0b (mv_link hP hO) (j:=0) (fun r=>by split <;> exact q17 _) (by omega)) _ _
theorem mv_po:∀ n,Mv ws.length 1 (poP ws nb n).1∧∀ l,1≤l→Mv ws.length 1 ((poP ws nb n).2 l)
 | 0=>⟨fun t ht o a t' o' e=>(by cases e),fun l hl t ht o a t' o' e=>(by cases e)⟩
 | n+1=>by
  have h:=mv_po n;have hP:=q0t h.1 (j:=0) (by omega);have hO:∀ l,1≤l→Mv ws.length 0 ((poP ws nb n).2 l):=fun l hl=>q0t (h.2 l hl) (by omega);exact ⟨mv_pipe hP hO,fun l hl=>mv_operand hP hO l hl⟩
end
def Bl {α:Type} (x:PM α):Prop:=∀ t o a t' o',o≤64→x t o= .ok a t' o'→o'=o
def Up {α:Type} (x:PM α):Prop:=∀ t o a t' o',o≤64→x t o= .ok a t' o'→o'=o+1∧o'≤64
def Dn {α:Type} (x:PM α):Prop:=∀ t o a t' o',1≤o→o≤64→x t o= .ok a t' o'→o'=o-1
theorem q2v {α:Type} {a b: α} {n t' o o':Nat} (e:(.ok a n o:Pr α)= .ok b t' o'):o'=o:=by
 injection e with h1 h2 h3;exact h3.symm
theorem q0R {α:Type} (a: α):Bl (pOk a):=fun t o b t' o' _ h=>q2v h
theorem then_ok {α β:Type} {x:PM α} {f: α→PM β} {t o:Nat} {b: β} {t' o':Nat} (e:q07 x f t o= .ok b t' o'):∃ a t1 o1,x t o= .ok a t1 o1∧f a t1 o1= .ok b t' o':=by
 unfold q07 at e
 cases hx:x t o with
 | bad e1 q=>rw [hx] at e;cases e
 | ok a t1 o1=>rw [hx] at e;exact ⟨a,t1,o1,rfl,e⟩
theorem q0e {α β:Type} {x:PM α} {f: α→PM β} (hx:Bl x) (hf:∀ a,Bl (f a)):Bl (q07 x f):=fun t o b t' o' ho e=>by
 obtain ⟨a,t1,o1,h1,h2⟩:=then_ok e;have e1:=hx _ _ _ _ _ ho h1;have:=hf a _ _ _ _ _ (by omega) h2;omega
theorem q1W {α β:Type} {x:PM α} {f: α→PM β} (hx:Up x) (hf:∀ a,Dn (f a)):Bl (q07 x f):=fun t o b t' o' ho e=>by
 obtain ⟨a,t1,o1,h1,h2⟩:=then_ok e;have e1:=hx _ _ _ _ _ ho h1;have:=hf a _ _ _ _ _ (by omega) (by omega) h2;omega
theorem q0G {α β:Type} {x:PM α} {f: α→PM β} (hx:Bl x) (hf:∀ a,Dn (f a)):Dn (q07 x f):=fun t o b t' o' ho ho2 e=>by
 obtain ⟨a,t1,o1,h1,h2⟩:=then_ok e;have e1:=hx _ _ _ _ _ ho2 h1;have:=hf a _ _ _ _ _ (by omega) (by omega) h2;omega
theorem dn_end {α β:Type} {x:PM α} {f: α→PM β} (hx:Dn x) (hf:∀ a,Bl (f a)):Dn (q07 x f):=fun t o b t' o' ho ho2 e=>by
 obtain ⟨a,t1,o1,h1,h2⟩:=then_ok e;have e1:=hx _ _ _ _ _ ho ho2 h1;have:=hf a _ _ _ _ _ (by omega) h2;omega
theorem q1n {α β:Type} {body: α→PM (α ⊕ β)} (hb:∀ a,Bl (body a)):∀ (f:Nat) (a: α),Bl (lpP body f a)
 | 0,a=>fun t o b t' o' _ e=>by cases e
 | f+1,a=>q0e (hb a) (fun r=>by
  cases r with
  | inl a'=>exact q1n hb f a'
  | inr b=>exact q0R b)
theorem q0Y {α:Type} {c:Nat→Nat→Prop} [∀ t o,Decidable (c t o)] {x y:PM α} (hx:Bl x) (hy:Bl y):Bl (fun t o=>if c t o then x t o else y t o):=fun t o a t' o' ho e=>by
 by_cases hc:c t o
 · simp only [if_pos hc] at e;exact hx _ _ _ _ _ ho e
 · simp only [if_neg hc] at e;exact hy _ _ _ _ _ ho e
theorem dn_ite {α:Type} {c:Nat→Nat→Prop} [∀ t o,Decidable (c t o)] {x y:PM α} (hx:Dn x) (hy:Dn y):Dn (fun t o=>if c t o then x t o else y t o):=fun t o a t' o' ho ho2 e=>by
 by_cases hc:c t o
 · simp only [if_pos hc] at e;exact hx _ _ _ _ _ ho ho2 e
 · simp only [if_neg hc] at e;exact hy _ _ _ _ _ ho ho2 e
section
variable {ws:List Tok} {nb:Nat}
theorem bl_ft {α:Type}:Bl (pFt ws nb:PM α):=fun t o a t' o' _ e=>by cases e
theorem q18:Bl (q0E ws):=fun t o a t' o' _ e=>q2v e
theorem q0x (s:List UInt8):Bl (q19 ws nb s):=q0Y (c:=fun t _=>syP ws t s=true) q18 bl_ft
theorem bl_be (k:Nat):Bl (pBe ws nb k):=q0Y (c:=fun t _=>isP ws k t=true) q18 bl_ft
theorem up_open:Up (q24 ws):=fun t o a t' o' ho e=>by
 unfold q24 at e;by_cases h:o=64
 · rw [if_pos h] at e;cases e
 · rw [if_neg h] at e;injection e with h1 h2 h3;omega
theorem q0J (s:List UInt8):Up (q13 ws nb s):=fun t o a t' o' ho e=>by
 unfold q13 at e;by_cases h:syP ws t s=true
 · rw [if_pos h] at e;exact up_open _ _ _ _ _ ho e
 · rw [if_neg h] at e;cases e
theorem dn_leave (s:List UInt8):Dn (q0F ws nb s):=q0G (q0x s) (fun _ t o a t' o' h1 h2 e=>by
 injection e with e1 e2 e3;exact e3.symm)
theorem q0Q {α:Type} (s:List UInt8) (a: α):Dn (q07 (q0F ws nb s) fun _=>pOk a):=dn_end (dn_leave s) (fun _=>q0R a)
variable {P:PM NT} {O:Nat→PM NT}
theorem bl_group (hP:Bl P):Bl (q1O ws nb P):=q1W (q0J _) (fun _=>q0G hP (fun n=>q0Q _ _))
theorem bl_list (hP:Bl P):Bl (listP ws nb P):=q1W (q0J _) (fun x=>q0G (q0Y (c:=fun t _=>syP ws t [93]=true) (q0R _) (q0e hP (fun n=>q0R _))) (fun ks=>q0Q _ _))
theorem bl_text (hP:Bl P):Bl (q1K ws nb P):=
 q0Y (c:=fun t _=>isP ws 6 t=true) (q0e q18 (fun x=>q0R _)) (q0Y (c:=fun t _=>isP ws 7 t=true)
  (q1W up_open (fun x0=>q0G (q1n (fun a=>q0e hP (fun n=>q0Y (c:=fun t _=>isP ws 8 t=true) (fun _ _ _ _ _ _ e=>q2v e) (q0R _))) _ _) (fun ks=>q0G (bl_be _) (fun x t o a t' o' h1 h2 e=>by
   injection e with e1 e2 e3;exact e3.symm)))) bl_ft)
theorem bl_pipes (hP:Bl P) (ks:List NT) (least most:Nat):Bl (q1C ws nb P ks least most):=
 q1W (q0J _) (fun _=>q0G hP (fun n=>q0G (q1n (fun (a:Nat × List NT)=>q0Y (c:=fun _ _=>a.1<most) (q0Y (c:=fun t _=>least≤a.1∧syP ws t [59]=false) (q0R _) (q0e (q0x _) (fun _=>q0e hP (fun k=>q0R _)))) (q0R _)) _ _) (fun ks=>q0Q _ _)))
theorem bl_branch (hP:Bl P) (at_:Nat):Bl (q1y ws nb P at_):=q0e hP (fun c=>q0e (q0x _) (fun _=>q0e hP (fun n=>q0R _)))
theorem bl_choice (hP:Bl P):Bl (q1d ws nb P):=
 q1W (q0J _) (fun x=>q0G (bl_branch hP _) (fun b=>q0G (q1n (fun a=>q0Y (c:=fun t _=>syP ws t [101,108,105,102]=true) (q0e q18 (fun y=>q0e (bl_branch hP _) (fun b=>q0R _))) (q0R _)) _ _) (fun bs=>q0G (q0Y (c:=fun t _=>syP ws t [101,108,115,101]=true) (q0e q18 (fun _=>hP)) (fun _ _ _ _ _ _ e=>q2v e)) (fun n=>q0Q _ _))))
theorem bl_entry (hP:Bl P) (hO:∀ l,Bl (O l)) (ks:List NT):Bl (q1a ws nb P O ks):=fun t o a t' o' ho e=>by
 unfold q1a at e;simp only at e
 split at e
 · split at e
   · exact q0e (q0x _) (fun _=>q0e (hO 3) (fun n=>q0R _)) _ _ _ _ _ ho e
   · exact q2v e
 · refine q0e (x:=if (hrP ws t).kind=7 then q1K ws nb P else q1O ws nb P) ?_ (fun k=>q0e (q0x _) (fun _=>q0e (hO 3) (fun n=>q0R _))) t o a t' o' ho e
   split
   · exact bl_text hP
   · exact bl_group hP
theorem bl_record (hP:Bl P) (hO:∀ l,Bl (O l)):Bl (q1e ws nb P O):=
 q1W (q0J _) (fun x=>q0G (q0Y (c:=fun t _=>syP ws t [125]=true) (q0R _) (q0e (bl_entry hP hO []) (fun ks=>q1n (fun a=>q0Y (c:=fun t _=>syP ws t [44]=true) (q0e q18 (fun _=>q0e (bl_entry hP hO a) (fun b=>q0R _))) (q0R _)) _ _))) (fun ks=>q0Q _ _))
theorem bl_call (hP:Bl P):Bl (callP ws nb P):=q0e q18 (fun x=>q0Y (c:=fun t _=>syP ws t [40]=true) (q0e (bl_pipes hP [] 1 9223372036854775807) (fun ks=>q0R _)) (q0R _))
theorem bl_term (hP:Bl P) (hO:∀ l,Bl (O l)):Bl (q20 ws nb P O):=fun t o a t' o' ho e=>by
 unfold q20 at e;simp only at e
 repeat' split at e
 all_goals first
  | exact q2v e
  | cases e
  | exact bl_group hP _ _ _ _ _ ho e
  | exact bl_list hP _ _ _ _ _ ho e
  | exact bl_record hP hO _ _ _ _ _ ho e
  | exact bl_choice hP _ _ _ _ _ ho e
  | exact bl_text hP _ _ _ _ _ ho e
  | exact bl_call hP _ _ _ _ _ ho e
  | exact q0e q18 (fun _=>q0e (bl_be _) (fun y=>q0R _)) _ _ _ _ _ ho e
  | exact q0e q18 (fun _=>q0Y (c:=fun t _=>(isP ws 6 t||isP ws 7 t)=true) (q0e (bl_text hP) (fun k=>q0R _)) (q0R _)) _ _ _ _ _ ho e
theorem bl_bracket (hP:Bl P) (of:NT):Bl (q15 ws nb P of):=
 q1W (q0J _) (fun x=>dn_ite (c:=fun t _=>syP ws t [93]=true) (q0Q _ _) (dn_ite (c:=fun t _=>syP ws t [58]=true) (q0G q18 (fun _=>q0G hP (fun n=>q0Q _ _))) (q0G hP (fun m=>dn_ite (c:=fun t _=>syP ws t [93]=true) (q0Q _ _) (q0G (q0x _) (fun _=>dn_ite (c:=fun t _=>syP ws t [93]=true) (q0Q _ _) (q0G hP (fun n=>q0Q _ _))))))))
theorem bl_suffixed (hP:Bl P) (a:NT):Bl (q0s ws nb P a):=by
 unfold q0s;exact q1n (fun a=>q0Y (c:=fun t _=>isP ws 4 t=true) (fun _ _ _ _ _ _ e=>q2v e) (q0Y (c:=fun t _=>syP ws t [46]=true) (q0e q18 (fun x=>q0e (bl_text hP) (fun k=>q0R _))) (q0Y (c:=fun t _=>syP ws t [91]=true) (q0e (bl_bracket hP a) (fun n=>q0R _)) (q0Y (c:=fun t _=>syP ws t [63]=true) (fun _ _ _ _ _ _ e=>q2v e) (q0R _))))) _ _
theorem bl_finished (hP:Bl P) (A:NT):Bl (q0i ws nb P A):=by
 unfold q0i
 split
 · exact q0e (q0x _) (fun _=>q0e (bl_be _) (fun x=>q0e (bl_pipes hP _ _ _) (fun ks=>q0R _)))
 · exact q0R A
theorem bl_unwind (hP:Bl P):∀ (l:List NT) (out:NT),Bl (q0D ws nb P l out)
 | [],out=>q0R _
 | last::rest,out=>fun t o a t' o' ho e=>by
  unfold q0D at e;simp only at e
  split at e
  · exact q2v e
  · exact q0e (bl_finished hP _) (fun B=>q0e (bl_suffixed hP B) (fun C=>bl_unwind hP rest C)) t o a t' o' ho e
theorem bl_post (hP:Bl P) (hO:∀ l,Bl (O l)):Bl (postP ws nb P O):=q1n (fun a=>q0e (q1n (fun b t o r t' o' ho e=>by
 cases h:q0U ws t with
 | some A=>simp only [h] at e;exact q2v e
 | none=>simp only [h] at e;exact q2v e) _ _) (fun b=>q0e (bl_term hP hO) (fun n=>q0e (bl_suffixed hP n) (fun m=>bl_unwind hP b m)))) _ _
theorem bl_unary (hP:Bl P) (hO:∀ l,Bl (O l)):Bl (q1I ws nb P O):=q0e (q1n (fun a=>q0Y (c:=fun t _=>syP ws t [45]=true) (fun _ _ _ _ _ _ e=>q2v e) (q0R _)) _ _) (fun ss=>q0e (bl_post hP hO) (fun n=>q0R _))
theorem bl_behind (hO:∀ l,Bl (O l)) (least:Nat) (left:NT):Bl (q1f ws O least left):=q1n (fun a t o r t' o' ho e=>by
 simp only at e
 split at e
 · exact q2v e
 · exact q0e (hO _) (fun n=>by split <;> exact q0R _) _ _ _ _ _ ho e) _ _
theorem bl_operand (hP:Bl P) (hO:∀ l,Bl (O l)) (least:Nat):Bl (q1Z ws nb P O least):=q0e (bl_unary hP hO) (fun n=>bl_behind hO least n)
theorem bl_param:Bl (q1l ws nb):=q0Y (c:=fun t _=>isP ws 3 t=true) (fun _ _ _ _ _ _ e=>q2v e) (q0e (bl_be _) (fun x=>q0R _))
theorem bl_params:Bl (q1r ws nb):=q0Y (c:=fun t _=>syP ws t [40]=true) (q1W (q0J _) (fun _=>q0G bl_param (fun a=>q0G (q1n (fun l=>q0Y (c:=fun t _=>syP ws t [59]=true) (q0e q18 (fun _=>q0e bl_param (fun b=>q0R _))) (q0R _)) _ _) (fun l=>q0Q _ _)))) (q0R _)
theorem bl_link (hP:Bl P) (hO:∀ l,Bl (O l)):Bl (q2n ws nb P O):=fun t o a t' o' ho e=>by
 unfold q2n at e
 split at e
 · exact q1W (q0J _) (fun x=>q0G (bl_be _) (fun y=>q0G bl_params (fun l=>q0G (q0x _) (fun _=>q0G hP (fun n=>q0Q _ _))))) t o a t' o' ho e
 · split at e
   · exact q0e q18 (fun x=>q0e (bl_be _) (fun y=>q0e (q0x _) (fun _=>q0R _))) t o a t' o' ho e
   · refine q0e (bl_unary hP hO) (fun n t1 o1 a t' o' ho1 e=> ?_) t o a t' o' ho e
     split at e
     · exact q0e q18 (fun x=>q0e (bl_be _) (fun y=>q0e (q0x _) (fun _=>q0R _))) _ _ _ _ _ ho1 e
     · refine q0e (bl_behind hO 1 n) (fun m t2 o2 a t' o' ho2 e=> ?_) t1 o1 a t' o' ho1 e
       split at e <;> exact q2v e
theorem bl_pipe (hP:Bl P) (hO:∀ l,Bl (O l)):Bl (pipeP ws nb P O):=q1n (fun a=>q0e (bl_link hP hO) (fun r=>by split <;> exact q0R _)) _ _
theorem bl_po:∀ n,Bl (poP ws nb n).1∧∀ l,Bl ((poP ws nb n).2 l)
 | 0=>⟨fun t o a t' o' _ e=>(by cases e),fun l t o a t' o' _ e=>(by cases e)⟩
 | n+1=>⟨bl_pipe (bl_po n).1 (bl_po n).2,fun l=>bl_operand (bl_po n).1 (bl_po n).2 l⟩
end
end Go.Proofs.YtbpopnafcpfifaaGreatDoor
